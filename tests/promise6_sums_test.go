package tests

import (
	"fmt"
	"testing"

	"loop.example/g01198/impl"
)

// Promise 6: sums are undone by differences.

func TestPromise6WrappedSumsByHand(t *testing.T) {
	s := []int{1, 2, 3, 4}
	for _, c := range []struct {
		s            []int
		bits, stages int
		want         []int
	}{
		{s, 5, 1, []int{1, 3, 6, 10}},
		{s, 5, 2, []int{1, 4, 10, -12}},
		{s, 5, 3, []int{1, 5, 15, 3}},
		{s, 5, 4, []int{1, 6, -11, -8}},
		{s, 6, 2, []int{1, 4, 10, 20}},
		{s, 2, 1, []int{1, -1, -2, -2}},
		{[]int{4, 3, 1}, 4, 1, []int{4, 7, -8}},
		{[]int{-4, -4, -1}, 4, 1, []int{-4, -8, 7}},
		{[]int{9, 0}, 4, 1, []int{-7, -7}},
		{[]int{impl.MaxSample}, 2, 4, []int{0}},
		{repeat(impl.MaxSample, 3), impl.MaxLong, 2, []int{100000, 300000, 600000}},
		{nil, 2, 1, nil},
		{nil, impl.MaxLong, 4, nil},
	} {
		list, ok := impl.WrappedSums(c.s, c.bits, c.stages)
		wantList(t, fmt.Sprint("sums ", c), list, ok, c.want)
	}
}

// The last sum of four stages is 766480 times the sample: greater than 2^36, so
// that 37 bits are just not enough.
func TestPromise6GreatestSums(t *testing.T) {
	s := repeat(impl.MaxSample, impl.MaxSignal)
	for _, c := range []struct {
		bits, last int
		wraps      bool
	}{
		{37, 76648000000 - 1<<37, true},
		{38, 76648000000, false},
		{impl.MaxLong, 76648000000, false},
	} {
		list, ok := impl.WrappedSums(s, c.bits, 4)
		if !ok || len(list) != len(s) || list[len(s)-1] != c.last {
			t.Error("sums", c, list, ok)
		}
		n, ok := impl.CountWraps(s, c.bits, 4)
		if n > 0 != c.wraps || !ok {
			t.Error("wraps", c, n, ok)
		}
	}
}

func TestPromise6WrappedCombsByHand(t *testing.T) {
	for _, c := range []struct {
		s            []int
		bits, stages int
		want         []int
	}{
		{[]int{4, -12}, 5, 1, []int{4, -16}},
		{[]int{4, -12}, 5, 2, []int{4, 12}},
		{[]int{3, -1, 4}, 4, 1, []int{3, -4, 5}},
		{[]int{3, -1, 4}, 4, 2, []int{3, -7, -7}},
		{[]int{7, -1}, 4, 1, []int{7, -8}},
		{[]int{7, -2}, 4, 1, []int{7, 7}},
		{[]int{-8, -1}, 4, 1, []int{-8, 7}},
		{[]int{-8, 0}, 4, 1, []int{-8, -8}},
		{[]int{9, 9}, 4, 1, []int{-7, 0}},
		{[]int{-impl.MaxSample, impl.MaxSample}, impl.MaxLong, 4, []int{-100000, 500000}},
		{nil, 2, 1, nil},
		{nil, impl.MaxLong, 4, nil},
	} {
		list, ok := impl.WrappedCombs(c.s, c.bits, c.stages)
		wantList(t, fmt.Sprint("combs ", c), list, ok, c.want)
	}
}

func TestPromise6CountWrapsByHand(t *testing.T) {
	for _, c := range []struct {
		s                  []int
		bits, stages, want int
	}{
		{[]int{1, 2, 3, 4}, 5, 2, 1},
		{[]int{1, 2, 3, 4}, 5, 1, 0},
		{[]int{7}, 4, 1, 0},
		{[]int{8}, 4, 1, 1},
		{[]int{-8}, 4, 1, 0},
		{[]int{-9}, 4, 1, 1},
		{[]int{7, 1}, 4, 1, 1},
		{[]int{7, 0}, 4, 1, 0},
		{[]int{-8, -1}, 4, 1, 1},
		{[]int{7, 1}, 4, 2, 1},      // 7 and 7, then 8 and -1
		{[]int{-8, 15}, 4, 2, 0},    // 15 is none of 4 bits, but 7 is
		{[]int{-8, 15, 1}, 4, 2, 2}, // 8 and -9 at the last one
		{[]int{-8, 15}, 4, 3, 1},    // -9 in the last stage
		{[]int{-8, 15, 1}, 4, 3, 4}, // 8, -9 and 14 at the last one
		{[]int{-8, 15, 1}, 4, 4, 4}, // and -3 behind them
		{[]int{4, 4, 4}, 2, 4, 3},
		{nil, 2, 1, 0},
		{nil, impl.MaxLong, 4, 0},
	} {
		n, ok := impl.CountWraps(c.s, c.bits, c.stages)
		wantNumber(t, fmt.Sprint("wraps ", c), n, ok, c.want)
	}
}

// checkSums also undoes sums by differences, and differences by sums, where what
// is between is a signal.
func checkSums(t *testing.T, s []int, bits int, stages int) {
	t.Helper()
	what := fmt.Sprint(s, bits, stages)
	sums, ok := impl.WrappedSums(s, bits, stages)
	wantList(t, "sums "+what, sums, ok, allWrapped(summedBy(s, stages), bits))
	differences, ok := impl.WrappedCombs(s, bits, stages)
	wantList(t, "combs "+what, differences, ok, allWrapped(differencesBy(s, stages), bits))
	n, ok := impl.CountWraps(s, bits, stages)
	wantNumber(t, "wraps "+what, n, ok, wrapsBy(s, bits, stages))
	if list, ok := impl.WrappedCombs(sums, bits, stages); ok || isExact(sums) {
		wantList(t, "undone sums "+what, list, ok, allWrapped(s, bits))
	}
	if list, ok := impl.WrappedSums(differences, bits, stages); ok || isExact(differences) {
		wantList(t, "undone combs "+what, list, ok, allWrapped(s, bits))
	}
}

func TestPromise6Sums(t *testing.T) {
	for _, s := range combSignals() {
		for stages := 1; stages <= impl.MaxStages; stages++ {
			for bits := 2; bits <= impl.MaxLong; bits++ {
				checkSums(t, s, bits, stages)
			}
		}
	}
}

func TestPromise6SumsOfAllShortSignals(t *testing.T) {
	eachList(4, []int{-3, -2, -1, 0, 1, 2, 4}, func(s []int) {
		for stages := 1; stages <= impl.MaxStages; stages++ {
			for bits := 2; bits <= 4; bits++ {
				checkSums(t, s, bits, stages)
			}
		}
	})
}

// One stage alone is what chapter 1 makes, where that is a signal and bits are
// enough.
func TestPromise6OneStageIsChapter1(t *testing.T) {
	for _, s := range combSignals() {
		if want, ok := impl.RunningSums(s); ok {
			list, ok := impl.WrappedSums(s, impl.MaxLong, 1)
			wantList(t, fmt.Sprint("sums ", s), list, ok, want)
		}
		if want, ok := impl.DifferencesOf(s); ok {
			list, ok := impl.WrappedCombs(s, impl.MaxLong, 1)
			wantList(t, fmt.Sprint("combs ", s), list, ok, want)
		}
	}
}

func TestPromise6SumsFail(t *testing.T) {
	for _, s := range badSignals() {
		for stages := 1; stages <= impl.MaxStages; stages++ {
			for _, bits := range []int{2, 17, impl.MaxLong} {
				checkNoSums(t, s, bits, stages)
			}
		}
	}
	for _, s := range [][]int{nil, {0}, {3, -1, 4}, repeat(1, impl.MaxSignal)} {
		for _, bits := range badLongs {
			for stages := 1; stages <= impl.MaxStages; stages++ {
				checkNoSums(t, s, bits, stages)
			}
		}
		for _, stages := range badStages {
			for _, bits := range []int{2, 17, impl.MaxLong} {
				checkNoSums(t, s, bits, stages)
			}
		}
	}
}
