package tests

import (
	"fmt"
	"testing"

	"loop.example/g01198/impl"
)

// Promise 5: shaped errors come back.

var badOrders = []int{minInt, -1, 3, maxInt}

var badShapeShifts = []int{minInt, -1, 11, 20, 64, maxInt}

func TestPromise5ShapesByHand(t *testing.T) {
	ones, minusOnes, mixed := []int{1, 1, 1, 1}, []int{-1, -1, -1, -1}, []int{5, -3, 7, 2}
	down, near, zero := impl.RoundDown, impl.RoundNear, impl.RoundZero
	for _, c := range []struct {
		s                  []int
		shift, mode, order int
		numbers, errors    []int
	}{
		{ones, 1, down, 0, []int{0, 0, 0, 0}, []int{1, 1, 1, 1}},
		{ones, 1, near, 0, []int{1, 1, 1, 1}, []int{-1, -1, -1, -1}},
		{ones, 1, zero, 0, []int{0, 0, 0, 0}, []int{1, 1, 1, 1}},
		{ones, 1, down, 1, []int{0, 1, 0, 1}, []int{1, 0, 1, 0}},
		{ones, 1, near, 1, []int{1, 0, 1, 0}, []int{-1, 0, -1, 0}},
		{ones, 1, zero, 1, []int{0, 1, 0, 1}, []int{1, 0, 1, 0}},
		{ones, 1, down, 2, []int{0, 1, 1, 0}, []int{1, 1, 0, 0}},
		{ones, 1, near, 2, []int{1, 0, 0, 1}, []int{-1, -1, 0, 0}},
		{ones, 1, zero, 2, []int{0, 1, 1, 0}, []int{1, 1, 0, 0}},
		{minusOnes, 1, down, 0, []int{-1, -1, -1, -1}, []int{1, 1, 1, 1}},
		{minusOnes, 1, near, 0, []int{0, 0, 0, 0}, []int{-1, -1, -1, -1}},
		{minusOnes, 1, zero, 0, []int{0, 0, 0, 0}, []int{-1, -1, -1, -1}},
		{minusOnes, 1, down, 1, []int{-1, 0, -1, 0}, []int{1, 0, 1, 0}},
		{minusOnes, 1, near, 1, []int{0, -1, 0, -1}, []int{-1, 0, -1, 0}},
		{minusOnes, 1, zero, 1, []int{0, -1, 0, -1}, []int{-1, 0, -1, 0}},
		{minusOnes, 1, down, 2, []int{-1, 0, 0, -1}, []int{1, 1, 0, 0}},
		{minusOnes, 1, near, 2, []int{0, -1, -1, 0}, []int{-1, -1, 0, 0}},
		{minusOnes, 1, zero, 2, []int{0, -1, -1, 0}, []int{-1, -1, 0, 0}},
		{mixed, 2, down, 0, []int{1, -1, 1, 0}, []int{1, 1, 3, 2}},
		{mixed, 2, near, 0, []int{1, -1, 2, 1}, []int{1, 1, -1, -2}},
		{mixed, 2, zero, 0, []int{1, 0, 1, 0}, []int{1, -3, 3, 2}},
		{mixed, 2, down, 1, []int{1, -1, 2, 0}, []int{1, 2, 1, 3}},
		{mixed, 2, near, 1, []int{1, 0, 1, 1}, []int{1, -2, 1, -1}},
		{mixed, 2, zero, 1, []int{1, 0, 1, 0}, []int{1, -2, 1, 3}},
		{mixed, 2, down, 2, []int{1, -1, 3, -1}, []int{1, 3, 0, 3}},
		{mixed, 2, near, 2, []int{1, 0, 1, 1}, []int{1, -1, 0, -1}},
		{mixed, 2, zero, 2, []int{1, 0, 1, 0}, []int{1, -1, 0, 3}},
		{mixed, 0, near, 2, mixed, []int{0, 0, 0, 0}},
		{[]int{512, -512}, 10, near, 0, []int{1, 0}, []int{-512, -512}},
		{[]int{512, -512}, 10, near, 1, []int{1, -1}, []int{-512, 0}},
		{[]int{512, -512}, 10, near, 2, []int{1, -1}, []int{-512, -512}}, // -1536
		{nil, 1, down, 2, nil, nil},
	} {
		what := fmt.Sprint(c.s, c.shift, c.mode, c.order)
		list, ok := impl.ShapeSignal(c.s, c.shift, c.mode, c.order)
		wantList(t, "shaped "+what, list, ok, c.numbers)
		list, ok = impl.ShapeErrors(c.s, c.shift, c.mode, c.order)
		wantList(t, "errors "+what, list, ok, c.errors)
	}
}

func TestPromise5ShapedSumsByHand(t *testing.T) {
	s := []int{5, -3, 7, 2}
	for _, c := range []struct {
		s                  []int
		shift, mode, order int
		sums               []int
		gap                int
	}{
		{s, 2, impl.RoundDown, 0, []int{1, 2, 5, 7}, 7},
		{s, 2, impl.RoundNear, 0, []int{1, 2, 1, -1}, 2},
		{s, 2, impl.RoundZero, 0, []int{1, -2, 1, 3}, 3},
		{s, 2, impl.RoundDown, 1, []int{1, 2, 1, 3}, 3},
		{s, 2, impl.RoundNear, 1, []int{1, -2, 1, -1}, 2},
		{s, 2, impl.RoundDown, 2, []int{1, 2, -3, 3}, 3},
		{s, 2, impl.RoundZero, 2, []int{1, -2, 1, 3}, 3},
		{repeat(-1, 3), 10, impl.RoundZero, 0, []int{-1, -2, -3}, 3},
		{repeat(1023, impl.MaxSignal), 10, impl.RoundDown, 0, multiples(1023, impl.MaxSignal), 1023 * impl.MaxSignal},
		{s, 0, impl.RoundDown, 2, []int{0, 0, 0, 0}, 0},
		{nil, 2, impl.RoundDown, 1, nil, 0},
	} {
		what := fmt.Sprint(c.s, c.shift, c.mode, c.order)
		list, ok := impl.ShapedSums(c.s, c.shift, c.mode, c.order)
		wantList(t, "sums "+what, list, ok, c.sums)
		n, ok := impl.GreatestShapeGap(c.s, c.shift, c.mode, c.order)
		wantNumber(t, "gap "+what, n, ok, c.gap)
	}
}

func multiples(x int, n int) []int {
	list := make([]int, n)
	for i := range list {
		list[i] = x * (i + 1)
	}
	return list
}

func checkShape(t *testing.T, s []int, shift int, mode int, order int) {
	t.Helper()
	what := fmt.Sprint(s, shift, mode, order)
	wantNumbers, wantErrors := shapedBy(t, s, shift, mode, order)
	list, ok := impl.ShapeSignal(s, shift, mode, order)
	wantList(t, "shaped "+what, list, ok, wantNumbers)
	list, ok = impl.ShapeErrors(s, shift, mode, order)
	wantList(t, "errors "+what, list, ok, wantErrors)
	wantSums, wantGap := make([]int, len(s)), 0
	for i := range s {
		wantSums[i] = total(s[:i+1]) - total(wantNumbers[:i+1])<<shift
		wantGap = max(wantGap, wantSums[i], -wantSums[i])
	}
	list, ok = impl.ShapedSums(s, shift, mode, order)
	wantList(t, "sums "+what, list, ok, wantSums)
	n, ok := impl.GreatestShapeGap(s, shift, mode, order)
	wantNumber(t, "gap "+what, n, ok, wantGap)
	if order == 1 && n >= 1<<shift {
		t.Errorf("gap %d of %s", n, what)
	}
}

func eachShape(visit func(shift int, mode int, order int)) {
	for shift := 0; shift <= 10; shift++ {
		for _, mode := range modes {
			for order := 0; order <= 2; order++ {
				visit(shift, mode, order)
			}
		}
	}
}

func TestPromise5Shapes(t *testing.T) {
	source := numberSource(56)
	eachShape(func(shift int, mode int, order int) {
		for _, s := range goodSignals() {
			checkShape(t, s, shift, mode, order)
		}
		for _, size := range []int{1, 4, 30, 2000, impl.MaxSample / 10} {
			checkShape(t, source.list(30+source.next(30), size), shift, mode, order)
		}
	})
	for _, mode := range modes {
		for order := 0; order <= 2; order++ {
			eachList(5, []int{-3, -2, -1, 1, 2}, func(s []int) { checkShape(t, s, 2, mode, order) })
		}
	}
}

// With the order 0 each sample is shifted by itself.
func TestPromise5ShapesOfOrder0(t *testing.T) {
	eachShape(func(shift int, mode int, order int) {
		for _, s := range goodSignals() {
			numbers, rests := make([]int, len(s)), make([]int, len(s))
			for i, x := range s {
				numbers[i], _ = impl.RoundShift(x, shift, mode)
				rests[i], _ = impl.RestOfShift(x, shift, mode)
			}
			list, ok := impl.ShapeSignal(s, shift, mode, 0)
			wantList(t, fmt.Sprint("shaped ", s, shift, mode), list, ok, numbers)
			list, ok = impl.ShapeErrors(s, shift, mode, 0)
			wantList(t, fmt.Sprint("errors ", s, shift, mode), list, ok, rests)
		}
	})
}

// What the sums still lack is the running sum of the errors with the order 0,
// the last error itself with 1, and its difference to the one before with 2.
func TestPromise5ShapedSumsAreOfErrors(t *testing.T) {
	source := numberSource(57)
	eachShape(func(shift int, mode int, order int) {
		s := source.list(impl.MaxSignal, 5000)
		want, ok := impl.ShapeErrors(s, shift, mode, order)
		if order == 0 {
			want, ok = impl.RunningSums(want)
		} else if order == 2 {
			want, ok = impl.DifferencesOf(want)
		}
		list, ok1 := impl.ShapedSums(s, shift, mode, order)
		wantList(t, fmt.Sprint("sums ", shift, mode, order), list, ok && ok1, want)
	})
}

func TestPromise5ShapesFail(t *testing.T) {
	for _, s := range [][]int{nil, {}, {0}, {3, -1, 4}, repeat(0, impl.MaxSignal)} {
		for _, shift := range badShapeShifts {
			checkNoShape(t, s, shift, impl.RoundDown, 0)
			checkNoShape(t, s, shift, impl.RoundNear, 2)
		}
		for _, mode := range badModes {
			checkNoShape(t, s, 0, mode, 0)
			checkNoShape(t, s, 10, mode, 1)
		}
		for _, order := range badOrders {
			checkNoShape(t, s, 0, impl.RoundDown, order)
			checkNoShape(t, s, 10, impl.RoundZero, order)
		}
	}
	for _, s := range badSignals() {
		for order := 0; order <= 2; order++ {
			checkNoShape(t, s, 0, impl.RoundDown, order)
			checkNoShape(t, s, 3, impl.RoundZero, order)
		}
	}
}
