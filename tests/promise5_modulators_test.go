package tests

import (
	"fmt"
	"slices"
	"testing"

	"loop.example/g01198/impl"
)

// Promise 5: modulators keep sums within their states.

func TestPromise5IsScaled(t *testing.T) {
	for m := 1; m <= impl.MaxScale; m++ {
		for _, s := range [][]int{nil, {0}, {m}, {-m}, {1, -1, m, -m, 0}} {
			if !impl.IsScaled(m, s) {
				t.Error("not scaled:", m, s)
			}
		}
		if impl.IsScaled(m, []int{m + 1}) || impl.IsScaled(m, []int{0, -m - 1}) {
			t.Error("scaled:", m)
		}
	}
	for _, m := range someScales {
		for _, s := range scaledSignals(m) {
			if !impl.IsScaled(m, s) {
				t.Error("not scaled:", m, s)
			}
		}
	}
}

func TestPromise5OneBitByHand(t *testing.T) {
	for _, c := range []struct {
		m               int
		s, bits, states []int
	}{
		{4, repeat(1, 8), []int{1, -1, 1, 1, -1, 1, -1, 1}, []int{-3, 2, -1, -4, 1, -2, 3, 0}},
		{4, []int{3, -1, 4}, []int{1, -1, 1}, []int{-1, 2, 2}},
		{4, repeat(4, 3), []int{1, 1, 1}, []int{0, 0, 0}},
		{4, repeat(-4, 3), []int{-1, -1, -1}, []int{0, 0, 0}},
		{4, repeat(0, 4), []int{1, -1, 1, -1}, []int{-4, 0, -4, 0}},
		{4, []int{-1}, []int{-1}, []int{3}},
		{4, []int{-1, 4, -4}, []int{-1, 1, -1}, []int{3, 3, 3}}, // 7 and -1
		{4, []int{0, -4, 4}, []int{1, -1, 1}, []int{-4, -4, -4}},
		{1, []int{1, -1, 0, 0, 0}, []int{1, -1, 1, -1, 1}, []int{0, 0, -1, 0, -1}},
		{1000, []int{1000, -1000, 999, -999, -1}, []int{1, -1, 1, -1, -1}, []int{0, 0, -1, 0, 999}},
		{1000, nil, nil, nil},
	} {
		list, ok := impl.OneBits(c.m, c.s)
		wantList(t, fmt.Sprint("bits ", c), list, ok, c.bits)
		list, ok = impl.StatesOfBits(c.m, c.s)
		wantList(t, fmt.Sprint("states ", c), list, ok, c.states)
		gap := 0
		if len(c.states) > 0 {
			gap = c.states[len(c.states)-1]
		}
		n, ok := impl.SumGap(c.m, c.s)
		wantNumber(t, fmt.Sprint("gap ", c), n, ok, gap)
	}
}

func checkOneBit(t *testing.T, m int, s []int) {
	t.Helper()
	what := fmt.Sprint(m, s)
	wantBits, wantStates := oneBitBy(m, s)
	bits, ok := impl.OneBits(m, s)
	wantList(t, "bits "+what, bits, ok, wantBits)
	states, ok := impl.StatesOfBits(m, s)
	wantList(t, "states "+what, states, ok, wantStates)
	for _, state := range states {
		if state < -m || state > m-1 {
			t.Errorf("state %d of %s", state, what)
		}
	}
	n, ok := impl.SumGap(m, s)
	wantNumber(t, "gap "+what, n, ok, total(s)-m*total(bits))
	if len(s) > 0 {
		wantNumber(t, "gap "+what, n, ok, states[len(s)-1])
	} else {
		wantNumber(t, "gap "+what, n, ok, 0)
	}
}

func TestPromise5OneBit(t *testing.T) {
	for _, m := range someScales {
		for _, s := range scaledSignals(m) {
			checkOneBit(t, m, s)
		}
	}
	source := numberSource(54)
	for m := 1; m <= impl.MaxScale; m++ {
		checkOneBit(t, m, source.list(impl.MaxSignal, m))
	}
}

func TestPromise5OneBitOfAllShortSignals(t *testing.T) {
	for m, samples := range map[int][]int{1: {-1, 0, 1}, 2: {-2, -1, 0, 1, 2}, 3: {-3, -2, -1, 0, 1, 2, 3}} {
		eachList(5, samples, func(s []int) { checkOneBit(t, m, s) })
	}
}

func TestPromise5TwoBitByHand(t *testing.T) {
	for _, c := range []struct {
		m       int
		s, bits []int
		states  [][]int
	}{
		{4, repeat(1, 8), []int{1, -1, -1, 1, 1, 1, 1, -1}, [][]int{{-3, -7}, {2, -1}, {7, 10}, {4, 10}, {1, 7}, {-2, 1}, {-5, -8}, {0, -4}}},
		{4, []int{3, -1, 4}, []int{1, -1, 1}, [][]int{{-1, -5}, {2, 1}, {2, -1}}},
		{4, repeat(4, 4), []int{1, -1, 1, 1}, [][]int{{0, -4}, {8, 8}, {8, 12}, {8, 16}}},
		{4, repeat(-4, 4), []int{1, -1, -1, -1}, [][]int{{-8, -12}, {-8, -16}, {-8, -20}, {-8, -24}}},
		{1, repeat(0, 4), []int{1, -1, -1, 1}, [][]int{{-1, -2}, {0, -1}, {1, 1}, {0, 0}}},
		{1000, []int{1000}, []int{1}, [][]int{{0, -1000}}},
		{1000, nil, nil, nil},
	} {
		list, ok := impl.TwoBits(c.m, c.s)
		wantList(t, fmt.Sprint("bits ", c), list, ok, c.bits)
		lists, ok := impl.TwoStates(c.m, c.s)
		wantLists(t, fmt.Sprint("states ", c), lists, ok, c.states)
	}
}

// checkTwoBit also holds the states against the sums that they keep: a that of
// the samples, and b that of all a so far.
func checkTwoBit(t *testing.T, m int, s []int) {
	t.Helper()
	what := fmt.Sprint(m, s)
	wantBits, wantStates := twoBitBy(m, s)
	bits, ok := impl.TwoBits(m, s)
	wantList(t, "bits "+what, bits, ok, wantBits)
	states, ok := impl.TwoStates(m, s)
	wantLists(t, "states "+what, states, ok, wantStates)
	sum := 0
	for i := range min(len(bits), len(states)) {
		back := m * total(bits[:i+1])
		wantNumber(t, fmt.Sprint("a ", i, what), states[i][0], ok, total(s[:i+1])-back)
		sum += states[i][0]
		wantNumber(t, fmt.Sprint("b ", i, what), states[i][1], ok, sum-back)
	}
}

func TestPromise5TwoBit(t *testing.T) {
	for _, m := range someScales {
		for _, s := range scaledSignals(m) {
			checkTwoBit(t, m, s)
		}
	}
	source := numberSource(55)
	for m := 1; m <= impl.MaxScale; m++ {
		checkTwoBit(t, m, source.list(impl.MaxSignal, m))
	}
	for m, samples := range map[int][]int{1: {-1, 0, 1}, 2: {-2, -1, 0, 1, 2}} {
		eachList(5, samples, func(s []int) { checkTwoBit(t, m, s) })
	}
}

// The states of the two bit modulator may be greater than any sample: they are
// told all the same.
func TestPromise5TwoStatesGreaterThanSamples(t *testing.T) {
	m := impl.MaxScale
	s := slices.Concat(repeat(m, 9), repeat(-m, impl.MaxSignal-9))
	_, states := twoBitBy(m, s)
	if last := states[len(s)-1]; max(last[1], -last[1]) <= impl.MaxSample {
		t.Fatal("the last states are samples:", last)
	}
	checkTwoBit(t, m, s)
}

func TestPromise5ModulatorsFail(t *testing.T) {
	for _, m := range badScales {
		for _, s := range [][]int{nil, {}, {0}, {1, -1}, {impl.MaxScale}, {maxInt}, {minInt}} {
			checkNoModulators(t, m, s)
		}
	}
	for _, m := range someScales {
		for _, s := range unscaledSignals(m) {
			checkNoModulators(t, m, s)
		}
	}
}
