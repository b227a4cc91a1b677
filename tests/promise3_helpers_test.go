package tests

import (
	"fmt"
	"slices"
	"testing"

	"loop.example/g01198/impl"
)

// What the tests of promise 3 share: filters, and their steps by the
// definition alone.

var smallSignals = [][]int{nil, {}, {0}, {3}, {0, 0, 0, 0}, {1, 1, 1, 1, 1}, {3, -1, 4}, {-7, 7, -8, 2, 0, 5}, repeat(2, impl.MaxSignal)}

func hold(bits int) impl.Word {
	return impl.Word{Bits: bits}
}

func wrap(bits int) impl.Word {
	return impl.Word{Bits: bits, Wrap: true}
}

func first(a int, shift int, mode int, w impl.Word) impl.First {
	return impl.First{A: a, Shift: shift, Mode: mode, Word: w}
}

// firstsOf are filters with a word: A meets each limit and lies at, below and
// above 2^Shift, and the shifts meet each limit.
func firstsOf(w impl.Word) []impl.First {
	var filters []impl.First
	for _, shift := range []int{0, 1, 2, 5, 9, 10} {
		whole := 1 << shift
		list := []int{-1024, -whole - 1, -whole, 1 - whole, -1, 0, 1, 3 * whole / 4, whole - 1, whole, whole + 1, 1024}
		slices.Sort(list)
		for _, a := range slices.Compact(list) {
			for _, mode := range modes {
				if a >= -1024 && a <= 1024 {
					filters = append(filters, first(a, shift, mode, w))
				}
			}
		}
	}
	return filters
}

// badFirsts are one past each limit, and far past them.
func badFirsts() []impl.First {
	var filters []impl.First
	for _, a := range []int{-1025, 1025, minInt, maxInt} {
		filters = append(filters, first(a, 1, impl.RoundDown, hold(4)), first(a, 10, impl.RoundNear, wrap(4)))
	}
	for _, shift := range []int{-1, 11, 20, 64, minInt, maxInt} {
		filters = append(filters, first(1, shift, impl.RoundDown, hold(4)), first(0, shift, impl.RoundNear, wrap(4)))
	}
	for _, mode := range badModes {
		filters = append(filters, first(1, 1, mode, hold(4)), first(0, 0, mode, wrap(4)))
	}
	for _, w := range badWords {
		filters = append(filters, first(1, 1, impl.RoundDown, w), first(0, 0, impl.RoundZero, w))
	}
	return filters
}

func rangeOf(w impl.Word) (int, int) {
	return -1 << (w.Bits - 1), 1<<(w.Bits-1) - 1
}

// someNumbers are the limits of a word, and ordinary numbers between them.
func someNumbers(w impl.Word) []int {
	least, greatest := rangeOf(w)
	list := []int{least, least + 1, least / 2, -1, 0, 1, greatest / 3, greatest - 1, greatest}
	slices.Sort(list)
	return slices.Compact(list)
}

// notIn are numbers that are none of the word.
func notIn(w impl.Word) []int {
	least, greatest := rangeOf(w)
	return []int{least - 1, greatest + 1, least - 1<<w.Bits, greatest + 1<<w.Bits, minInt, maxInt}
}

var badSamples = []int{impl.MaxSample + 1, -impl.MaxSample - 1, minInt, maxInt}

// stepped makes a step by the definition alone, before and after it is fitted.
func stepped(t *testing.T, f impl.First, y int, x int) (int, int) {
	t.Helper()
	unfitted := rounded(t, f.A*y, f.Shift, f.Mode) + x
	return unfitted, fitted(f.Word, unfitted)
}

// ran makes a run by the definition alone, and counts the steps that fitting changes.
func ran(t *testing.T, f impl.First, y int, s []int) ([]int, int) {
	t.Helper()
	run, count := make([]int, len(s)), 0
	for i, x := range s {
		unfitted, next := stepped(t, f, y, x)
		if unfitted != next {
			count++
		}
		y = next
		run[i] = y
	}
	return run, count
}

func wantTwo(t *testing.T, what string, a int, b int, ok bool, wantA int, wantB int) {
	t.Helper()
	if a != wantA || b != wantB || !ok {
		t.Errorf("%s: got %d and %d, %v, want %d and %d", what, a, b, ok, wantA, wantB)
	}
}

func wantNoTwo(t *testing.T, what string, a int, b int, ok bool) {
	t.Helper()
	if a != 0 || b != 0 || ok {
		t.Errorf("%s: got %d and %d, %v, want failure", what, a, b, ok)
	}
}

func wantLists(t *testing.T, what string, got [][]int, ok bool, want [][]int) {
	t.Helper()
	if !slices.EqualFunc(got, want, slices.Equal) || !ok {
		t.Errorf("%s: got %v, %v, want %v", what, got, ok, want)
	}
}

func wantNoLists(t *testing.T, what string, got [][]int, ok bool) {
	t.Helper()
	if len(got) != 0 || ok {
		t.Errorf("%s: got %v, %v, want failure", what, got, ok)
	}
}

// checkNothingOf wants failure of all calls with a filter, a number and a
// sample, one of which is none.
func checkNothingOf(t *testing.T, f impl.First, y int, x int) {
	t.Helper()
	what := fmt.Sprint(f, y, x)
	n, ok := impl.FirstStep(f, y, x)
	wantNoNumber(t, "step "+what, n, ok)
	for _, s := range [][]int{{x}, {0, x}, append(repeat(0, impl.MaxSignal-1), x)} {
		checkNoRun(t, f, y, s)
	}
	a, b, ok := impl.FirstPeriod(f, y, x)
	wantNoTwo(t, "period "+what, a, b, ok)
	list, ok := impl.NumbersBefore(f, y, x)
	wantNoList(t, "before "+what, list, ok)
}

func checkNoRun(t *testing.T, f impl.First, y int, s []int) {
	t.Helper()
	what := fmt.Sprint(f, y, s)
	list, ok := impl.RunFirst(f, y, s)
	wantNoList(t, "run "+what, list, ok)
	n, ok := impl.CountFits(f, y, s)
	wantNoNumber(t, "fits "+what, n, ok)
	list, ok = impl.ExactFirst(f, y, s)
	wantNoList(t, "exact "+what, list, ok)
}
