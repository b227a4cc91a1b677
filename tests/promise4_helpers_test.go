package tests

import (
	"fmt"
	"slices"
	"testing"

	"loop.example/g01198/impl"
)

// What the tests of promise 4 share: filters, and their steps by the
// definition alone.

func second(a int, b int, shift int, mode int, w impl.Word) impl.Second {
	return impl.Second{A: a, B: b, Shift: shift, Mode: mode, Word: w}
}

// secondsOf are filters with a word: A and B meet each limit and lie at, below
// and above 2^Shift, and the shifts meet each limit.
func secondsOf(w impl.Word) []impl.Second {
	var filters []impl.Second
	for _, shift := range []int{0, 1, 3, 10} {
		whole := 1 << shift
		list := []int{-1024, -whole, 1 - whole, 0, 1, whole - 1, whole, whole + 1, 1024}
		slices.Sort(list)
		list = slices.DeleteFunc(slices.Compact(list), func(a int) bool { return a > 1024 })
		for _, a := range list {
			for _, b := range list {
				for _, mode := range modes {
					filters = append(filters, second(a, b, shift, mode, w))
				}
			}
		}
	}
	return filters
}

// badSeconds are one past each limit, and far past them.
func badSeconds() []impl.Second {
	var filters []impl.Second
	for _, a := range []int{-1025, 1025, minInt, maxInt} {
		filters = append(filters, second(a, 1, 1, impl.RoundDown, hold(4)), second(1, a, 1, impl.RoundDown, hold(4)))
		filters = append(filters, second(a, 0, 10, impl.RoundNear, wrap(2)), second(0, a, 10, impl.RoundNear, wrap(2)))
	}
	for _, shift := range []int{-1, 11, 20, 64, minInt, maxInt} {
		filters = append(filters, second(1, -1, shift, impl.RoundDown, hold(4)), second(0, 0, shift, impl.RoundNear, wrap(4)))
	}
	for _, mode := range badModes {
		filters = append(filters, second(1, -1, 1, mode, hold(4)), second(0, 0, 0, mode, wrap(4)))
	}
	for _, w := range badWords {
		filters = append(filters, second(1, -1, 1, impl.RoundDown, w), second(0, 0, 0, impl.RoundZero, w))
	}
	return filters
}

// steppedPair makes a step by the definition alone, before and after it is fitted.
func steppedPair(t *testing.T, f impl.Second, p [2]int, x int) (int, [2]int) {
	t.Helper()
	unfitted := rounded(t, f.A*p[0]+f.B*p[1], f.Shift, f.Mode) + x
	return unfitted, [2]int{fitted(f.Word, unfitted), p[0]}
}

// ranPair makes a run by the definition alone, and counts the steps that fitting changes.
func ranPair(t *testing.T, f impl.Second, p [2]int, s []int) ([]int, int) {
	t.Helper()
	run, count := make([]int, len(s)), 0
	for i, x := range s {
		unfitted, next := steppedPair(t, f, p, x)
		if unfitted != next[0] {
			count++
		}
		p = next
		run[i] = p[0]
	}
	return run, count
}

// pairWayBy finds the pairs that come by the definition alone, until one comes
// again, and behind how many steps this was first there; it fails if this needs
// more than 20000 steps.
func pairWayBy(t *testing.T, f impl.Second, p [2]int, x int) ([][2]int, int, bool) {
	t.Helper()
	var way [][2]int
	been := map[[2]int]int{}
	for steps := 0; steps <= 20000; steps++ {
		if begin, ok := been[p]; ok {
			return way, begin, true
		}
		been[p] = steps
		way = append(way, p)
		_, p = steppedPair(t, f, p, x)
	}
	return nil, 0, false
}

// firstTurn compares all lists that begin with each of the numbers, in turn.
func firstTurn(cycle []int) []int {
	best := 0
	for i := range cycle {
		if comparedTurns(cycle, i, best) < 0 {
			best = i
		}
	}
	return slices.Concat(cycle[best:], cycle[:best])
}

func comparedTurns(cycle []int, i int, j int) int {
	for k := range cycle {
		if d := cycle[(i+k)%len(cycle)] - cycle[(j+k)%len(cycle)]; d != 0 {
			return d
		}
	}
	return 0
}

func lastNumbers(pairs [][2]int) []int {
	var list []int
	for _, p := range pairs {
		list = append(list, p[0])
	}
	return list
}

// somePairs are few pairs of a word, others for other i, with its limits among
// them for some.
func somePairs(w impl.Word, i int) [][2]int {
	numbers := someNumbers(w)
	at := func(k int) int { return numbers[k%len(numbers)] }
	return [][2]int{{at(i), at(i / 3)}, {at(i + 4), at(i + 1)}, {at(i * 2), at(i*5 + 7)}}
}

// checkNothingOfPair wants failure of all calls with a filter, a pair and a
// sample, one of which is none.
func checkNothingOfPair(t *testing.T, f impl.Second, y int, z int, x int) {
	t.Helper()
	what := fmt.Sprint(f, y, z, x)
	n, ok := impl.SecondStep(f, y, z, x)
	wantNoNumber(t, "step "+what, n, ok)
	for _, s := range [][]int{{x}, {0, x}, append(repeat(0, impl.MaxSignal-1), x)} {
		checkNoPairRun(t, f, y, z, s)
	}
	a, b, ok := impl.PairPeriod(f, y, z, x)
	wantNoTwo(t, "period "+what, a, b, ok)
	list, ok := impl.CycleOfPair(f, y, z, x)
	wantNoList(t, "cycle "+what, list, ok)
	list, ok = impl.PairsBefore(f, y, z, x)
	wantNoList(t, "before "+what, list, ok)
}

func checkNoPairRun(t *testing.T, f impl.Second, y int, z int, s []int) {
	t.Helper()
	what := fmt.Sprint(f, y, z, s)
	list, ok := impl.RunSecond(f, y, z, s)
	wantNoList(t, "run "+what, list, ok)
	n, ok := impl.CountPairFits(f, y, z, s)
	wantNoNumber(t, "fits "+what, n, ok)
	list, ok = impl.ExactSecond(f, y, z, s)
	wantNoList(t, "exact "+what, list, ok)
}

func checkNoPairScan(t *testing.T, f impl.Second, x int) {
	t.Helper()
	what := fmt.Sprint(f, x)
	lists, ok := impl.PairCycles(f, x)
	wantNoLists(t, "cycles "+what, lists, ok)
	n, ok := impl.CountLasting(f, x)
	wantNoNumber(t, "lasting "+what, n, ok)
	is, ok := impl.IsTurnable(f, x)
	wantNoFlag(t, "turnable "+what, is, ok)
}
