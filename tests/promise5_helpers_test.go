package tests

import (
	"fmt"
	"slices"
	"testing"

	"loop.example/g01198/impl"
)

// What the tests of promise 5 share: scales, signals and bits, and modulators
// by the definition alone.

var someScales = []int{1, 2, 3, 4, 7, 12, 64, 999, impl.MaxScale}

var badScales = []int{minInt, -impl.MaxScale, -1, 0, impl.MaxScale + 1, maxInt}

// scaledSignals meet each limit exactly, among ordinary ones.
func scaledSignals(m int) [][]int {
	turns := repeat(m, impl.MaxSignal)
	for i := range turns {
		if i%2 == 1 {
			turns[i] = -m
		}
	}
	source := numberSource(50 + m)
	return [][]int{
		nil,
		{},
		{0},
		{1},
		{-1},
		{m},
		{-m},
		{-m, m, 0},
		repeat(0, impl.MaxSignal),
		repeat(m, impl.MaxSignal),
		repeat(-m, impl.MaxSignal),
		repeat(m-1, impl.MaxSignal),
		repeat(1-m, impl.MaxSignal-1),
		turns,
		source.list(impl.MaxSignal, m),
		source.list(17, m),
		source.list(40, (m+1)/2),
	}
}

// unscaledSignals are one past each limit, and far past them.
func unscaledSignals(m int) [][]int {
	return [][]int{
		{m + 1},
		{-m - 1},
		{0, m, -m, m + 1},
		append(repeat(-m, impl.MaxSignal-1), -m-1),
		{impl.MaxSample},
		{impl.MaxSample + 1},
		repeat(0, impl.MaxSignal+1),
		repeat(1, impl.MaxBitList),
		{0, maxInt},
		{minInt, 0},
		{minInt + 1},
	}
}

// eachList calls visit with each list of at most length numbers of the told ones.
func eachList(length int, numbers []int, visit func(list []int)) {
	var longer func(list []int)
	longer = func(list []int) {
		visit(list)
		if len(list) == length {
			return
		}
		for _, x := range numbers {
			longer(append(slices.Clone(list), x))
		}
	}
	longer(nil)
}

// goodBits meet the limit exactly, among ordinary ones.
func goodBits() [][]int {
	turns := repeat(1, impl.MaxBitList)
	for i := range turns {
		if i%2 == 1 {
			turns[i] = -1
		}
	}
	return [][]int{
		nil,
		{},
		{1},
		{-1},
		{1, -1},
		{-1, -1, 1},
		{1, 1, -1, 1, -1, -1, -1, 1},
		repeat(1, impl.MaxBitList),
		repeat(-1, impl.MaxBitList),
		turns,
		turns[1:],
		slices.Concat(repeat(1, impl.MaxBitList/2), repeat(-1, impl.MaxBitList/2)),
		someBits(51, impl.MaxBitList),
		someBits(52, 66),
		someBits(53, 21),
	}
}

func someBits(source numberSource, length int) []int {
	bits := source.list(length, 1000)
	for i, x := range bits {
		bits[i] = 1
		if x < 0 {
			bits[i] = -1
		}
	}
	return bits
}

// badBits are no bits, or one past the limit.
func badBits() [][]int {
	return [][]int{
		{0},
		{2},
		{-2},
		{maxInt},
		{minInt},
		{1, -1, 0},
		{0, 1, -1},
		{1, 3, 1},
		append(repeat(1, impl.MaxBitList-1), 0),
		repeat(1, impl.MaxBitList+1),
		repeat(-1, impl.MaxBitList+1),
		repeat(1, 1000),
	}
}

// oneBitBy makes the bits and states of the one bit modulator by the definition alone.
func oneBitBy(m int, s []int) ([]int, []int) {
	bits, states := []int{}, []int{}
	state := 0
	for _, x := range s {
		state += x
		if state >= 0 {
			bits = append(bits, 1)
			state -= m
		} else {
			bits = append(bits, -1)
			state += m
		}
		states = append(states, state)
	}
	return bits, states
}

// twoBitBy makes the bits and states of the two bit modulator by the definition alone.
func twoBitBy(m int, s []int) ([]int, [][]int) {
	bits, states := []int{}, [][]int{}
	a, b := 0, 0
	for _, x := range s {
		if b >= 0 {
			bits = append(bits, 1)
			a = a + x - m
			b = b + a - m
		} else {
			bits = append(bits, -1)
			a = a + x + m
			b = b + a + m
		}
		states = append(states, []int{a, b})
	}
	return bits, states
}

// shapedBy shapes a signal by the definition alone.
func shapedBy(t *testing.T, s []int, shift int, mode int, order int) ([]int, []int) {
	t.Helper()
	numbers, errors := []int{}, []int{0, 0}
	for i, x := range s {
		last, before := errors[i+1], errors[i]
		sum := x + []int{0, last, 2*last - before}[order]
		number := rounded(t, sum, shift, mode)
		numbers = append(numbers, number)
		errors = append(errors, sum-number*(1<<shift))
	}
	return numbers, errors[2:]
}

func total(list []int) int {
	sum := 0
	for _, x := range list {
		sum += x
	}
	return sum
}

func countOnes(bits []int) int {
	count := 0
	for _, bit := range bits {
		if bit == 1 {
			count++
		}
	}
	return count
}

// checkNoModulators wants failure of all calls with a scale and a signal that
// is not scaled by it.
func checkNoModulators(t *testing.T, m int, s []int) {
	t.Helper()
	what := fmt.Sprint(m, s)
	if impl.IsScaled(m, s) {
		t.Error("scaled:", what)
	}
	list, ok := impl.OneBits(m, s)
	wantNoList(t, "bits "+what, list, ok)
	list, ok = impl.StatesOfBits(m, s)
	wantNoList(t, "states "+what, list, ok)
	n, ok := impl.SumGap(m, s)
	wantNoNumber(t, "gap "+what, n, ok)
	list, ok = impl.TwoBits(m, s)
	wantNoList(t, "two bits "+what, list, ok)
	lists, ok := impl.TwoStates(m, s)
	wantNoLists(t, "two states "+what, lists, ok)
}

// checkNoConstant wants failure of all calls with a scale and a number that is
// none in -m..m.
func checkNoConstant(t *testing.T, m int, x int) {
	t.Helper()
	what := fmt.Sprint(m, x)
	for _, n := range []int{0, 1, impl.MaxBitList} {
		list, ok := impl.ConstantBits(m, x, n)
		wantNoList(t, fmt.Sprint("bits ", what, n), list, ok)
	}
	n, ok := impl.PeriodOfConstant(m, x)
	wantNoNumber(t, "period "+what, n, ok)
	n, ok = impl.OnesInPeriod(m, x)
	wantNoNumber(t, "ones "+what, n, ok)
}

// checkNoShape wants failure of all calls with these arguments.
func checkNoShape(t *testing.T, s []int, shift int, mode int, order int) {
	t.Helper()
	what := fmt.Sprint(s, shift, mode, order)
	list, ok := impl.ShapeSignal(s, shift, mode, order)
	wantNoList(t, "shaped "+what, list, ok)
	list, ok = impl.ShapeErrors(s, shift, mode, order)
	wantNoList(t, "errors "+what, list, ok)
	list, ok = impl.ShapedSums(s, shift, mode, order)
	wantNoList(t, "sums "+what, list, ok)
	n, ok := impl.GreatestShapeGap(s, shift, mode, order)
	wantNoNumber(t, "gap "+what, n, ok)
}
