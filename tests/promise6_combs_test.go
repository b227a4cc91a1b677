package tests

import (
	"fmt"
	"slices"
	"testing"

	"loop.example/g01198/impl"
)

// Promise 6: wrapped combs are exact ones wrapped.

func TestPromise6DropSamplesByHand(t *testing.T) {
	s := []int{1, 2, 3, 4, 5}
	for _, c := range []struct {
		s           []int
		rate, first int
		want        []int
	}{
		{s, 1, 0, s},
		{s, 2, 0, []int{1, 3, 5}},
		{s, 2, 1, []int{2, 4}},
		{s, 3, 1, []int{2, 5}},
		{s, 5, 0, []int{1}},
		{s, 5, 4, []int{5}},
		{s, 8, 0, []int{1}},
		{s, 8, 4, []int{5}},
		{s, 8, 5, nil},
		{s, 8, 7, nil},
		{nil, 1, 0, nil},
		{nil, 8, 7, nil},
	} {
		list, ok := impl.DropSamples(c.s, c.rate, c.first)
		wantList(t, fmt.Sprint("dropped ", c), list, ok, c.want)
	}
}

func TestPromise6DropSamples(t *testing.T) {
	for _, s := range combSignals() {
		for rate := 1; rate <= impl.MaxRate; rate++ {
			for first := range rate {
				list, ok := impl.DropSamples(s, rate, first)
				wantList(t, fmt.Sprint("dropped ", s, rate, first), list, ok, droppedBy(s, rate, first))
			}
			for _, first := range []int{minInt, -1, rate, rate + 1, maxInt} {
				list, ok := impl.DropSamples(s, rate, first)
				wantNoList(t, fmt.Sprint("dropped ", s, rate, first), list, ok)
			}
		}
		for _, rate := range badRates {
			for _, first := range []int{-1, 0, 1, rate - 1} {
				list, ok := impl.DropSamples(s, rate, first)
				wantNoList(t, fmt.Sprint("dropped ", s, rate, first), list, ok)
			}
		}
	}
	for _, s := range badSignals() {
		list, ok := impl.DropSamples(s, 1, 0)
		wantNoList(t, fmt.Sprint("dropped ", s), list, ok)
		list, ok = impl.DropSamples(s, impl.MaxRate, impl.MaxRate-1)
		wantNoList(t, fmt.Sprint("dropped ", s), list, ok)
	}
}

func TestPromise6ExactCombByHand(t *testing.T) {
	s := []int{1, 2, 3, 4}
	for _, c := range []struct {
		s            []int
		stages, rate int
		want         []int
	}{
		{s, 2, 2, []int{4, 12}},
		{s, 1, 2, []int{3, 7}},
		{s, 1, 1, s},
		{s, 4, 1, s},
		{s, 1, 3, []int{6}},
		{s, 1, 4, []int{10}},
		{s, 1, 5, nil},
		{s, 4, 8, nil},
		{[]int{1, 2, 3, 4, 5}, 1, 2, []int{3, 7}},
		{[]int{1, 2, 3, 4, 5, 6}, 2, 3, []int{10, 36}},
		{[]int{1, 0, 0, 0, 0, 0, 0, 0, 0}, 3, 3, []int{6, 3, 0}},
		{[]int{-1, 0, 0, 0, 0, 0}, 4, 2, []int{-4, -4, 0}},
		{nil, 1, 1, nil},
		{nil, 4, 8, nil},
	} {
		list, ok := impl.ExactComb(c.s, c.stages, c.rate)
		wantList(t, fmt.Sprint("exact ", c), list, ok, c.want)
	}
}

// Only what is kept must be a signal: neither what is dropped, nor the running
// sums on the way.
func TestPromise6ExactCombAtTheLimits(t *testing.T) {
	most, half := impl.MaxSample, impl.MaxSample/2
	for _, c := range []struct {
		s            []int
		stages, rate int
		want         []int
	}{
		{[]int{half, half}, 1, 2, []int{most}},
		{[]int{-half, -half}, 1, 2, []int{-most}},
		{repeat(most, impl.MaxSignal), 1, 1, repeat(most, impl.MaxSignal)},
		{repeat(-most, impl.MaxSignal), 4, 1, repeat(-most, impl.MaxSignal)},
		{repeat(most/8, impl.MaxSignal), 1, 8, repeat(most, 8)},
		{[]int{most, -most, -most, most}, 1, 2, []int{0, 0}},
		{[]int{0, 0, most, most, most}, 1, 3, []int{most}},
	} {
		list, ok := impl.ExactComb(c.s, c.stages, c.rate)
		wantList(t, fmt.Sprint("exact ", c), list, ok, c.want)
	}
	for _, c := range []struct {
		s            []int
		stages, rate int
	}{
		{[]int{half + 1, half}, 1, 2},
		{[]int{-half, -half - 1}, 1, 2},
		{[]int{0, 0, half + 1, half}, 1, 2},
		{repeat(most/8+1, impl.MaxSignal), 1, 8},
		{repeat(25, impl.MaxSignal), 4, 8},
		{repeat(-most, impl.MaxSignal), 4, 8},
	} {
		list, ok := impl.ExactComb(c.s, c.stages, c.rate)
		wantNoList(t, fmt.Sprint("exact ", c), list, ok)
		n, ok := impl.LeastBits(c.s, c.stages, c.rate)
		wantNoNumber(t, fmt.Sprint("least bits ", c), n, ok)
		list, ok = impl.WrappedComb(c.s, impl.MaxLong, c.stages, c.rate)
		wantList(t, fmt.Sprint("wrapped ", c), list, ok, combedBy(c.s, c.stages, c.rate))
	}
}

func TestPromise6WrappedCombByHand(t *testing.T) {
	s := []int{1, 2, 3, 4}
	for _, c := range []struct {
		s                  []int
		bits, stages, rate int
		want               []int
	}{
		{s, 5, 2, 2, []int{4, 12}},
		{s, 4, 2, 2, []int{4, -4}},
		{s, 3, 2, 2, []int{-4, -4}},
		{s, 2, 2, 2, []int{0, 0}},
		{s, 40, 2, 2, []int{4, 12}},
		{s, 2, 1, 1, []int{1, -2, -1, 0}},
		{s, 2, 4, 1, []int{1, -2, -1, 0}},
		{[]int{4, 3}, 4, 1, 2, []int{7}},
		{[]int{4, 4}, 4, 1, 2, []int{-8}},
		{[]int{-4, -4}, 4, 1, 2, []int{-8}},
		{[]int{-4, -5}, 4, 1, 2, []int{7}},
		{[]int{50001, 50000}, 17, 1, 2, []int{-31071}},
		{[]int{50001, 50000}, 18, 1, 2, []int{100001}},
		{[]int{50001, 50000}, 40, 1, 2, []int{100001}},
		{[]int{9}, 4, 1, 2, nil},
		{nil, 2, 4, 8, nil},
	} {
		list, ok := impl.WrappedComb(c.s, c.bits, c.stages, c.rate)
		wantList(t, fmt.Sprint("wrapped ", c), list, ok, c.want)
	}
	list, ok := impl.WrappedComb(repeat(-impl.MaxSample, impl.MaxSignal), impl.MaxLong, impl.MaxStages, impl.MaxRate)
	if !ok || len(list) != 8 || list[7] != -4096*impl.MaxSample {
		t.Error("the greatest comb:", list, ok)
	}
}

func checkComb(t *testing.T, s []int, stages int, rate int) {
	t.Helper()
	what := fmt.Sprint(s, stages, rate)
	want := combedBy(s, stages, rate)
	exact, ok := impl.ExactComb(s, stages, rate)
	wantListIf(t, "exact "+what, exact, ok, want, isExact(want))
	n, ok := impl.LeastBits(s, stages, rate)
	if isExact(want) {
		wantNumber(t, "least bits "+what, n, ok, bitsHolding(want))
	} else {
		wantNoNumber(t, "least bits "+what, n, ok)
	}
	for bits := 2; bits <= impl.MaxLong; bits++ {
		list, ok := impl.WrappedComb(s, bits, stages, rate)
		wantList(t, fmt.Sprint("wrapped ", bits, what), list, ok, allWrapped(want, bits))
	}
}

func TestPromise6Combs(t *testing.T) {
	for _, s := range combSignals() {
		eachComb(func(stages int, rate int) { checkComb(t, s, stages, rate) })
	}
}

func TestPromise6CombsOfAllShortSignals(t *testing.T) {
	eachList(5, []int{-2, 0, 1}, func(s []int) {
		for stages := 1; stages <= impl.MaxStages; stages++ {
			for rate := 1; rate <= 4; rate++ {
				checkComb(t, s, stages, rate)
			}
		}
	})
}

// The three parts of a wrapped comb, each by its own call, where all that comes
// between is a signal.
func TestPromise6WrappedCombIsMadeOfItsParts(t *testing.T) {
	for _, s := range combSignals() {
		eachComb(func(stages int, rate int) {
			for _, bits := range []int{2, 5, 17} {
				what := fmt.Sprint(s, bits, stages, rate)
				sums, ok := impl.WrappedSums(s, bits, stages)
				if !ok {
					t.Fatal("no sums", what)
				}
				kept, ok := impl.DropSamples(sums, rate, rate-1)
				if !ok {
					t.Fatal("not dropped", what)
				}
				want, ok := impl.WrappedCombs(kept, bits, stages)
				if !ok {
					t.Fatal("no combs", what)
				}
				list, ok := impl.WrappedComb(s, bits, stages, rate)
				wantList(t, "wrapped "+what, list, ok, want)
			}
		})
	}
}

func TestPromise6LeastBitsByHand(t *testing.T) {
	for _, c := range []struct {
		s                  []int
		stages, rate, want int
	}{
		{[]int{1, 2, 3, 4}, 2, 2, 5},
		{nil, 4, 8, 2},
		{[]int{7, 7}, 1, 3, 2}, // nothing is kept
		{repeat(0, impl.MaxSignal), 4, 8, 2},
		{[]int{1}, 1, 1, 2},
		{[]int{-2}, 1, 1, 2},
		{[]int{2}, 1, 1, 3},
		{[]int{-3}, 4, 1, 3},
		{[]int{65535}, 1, 1, 17},
		{[]int{65536}, 1, 1, 18},
		{[]int{-65536}, 1, 1, 17},
		{[]int{-65537}, 1, 1, 18},
		{[]int{impl.MaxSample}, 4, 1, 18},
		{[]int{4, 3}, 1, 2, 4},
		{[]int{4, 4}, 1, 2, 5},
		{[]int{-4, -4}, 1, 2, 4},
		{[]int{0, 0, 0, 0, 4, 4}, 1, 2, 5},
		{[]int{0, 0, 4, 4, 0, 0}, 1, 2, 5},
		{repeat(24, impl.MaxSignal), 4, 8, 18},
	} {
		n, ok := impl.LeastBits(c.s, c.stages, c.rate)
		wantNumber(t, fmt.Sprint("least bits ", c), n, ok, c.want)
	}
}

// Few bits are enough although the sums wrap, again and again.
func TestPromise6LeastBitsAlthoughSumsWrap(t *testing.T) {
	for _, c := range []struct{ x, stages, rate, want int }{
		{1, 1, 2, 3},
		{-1, 1, 2, 2},
		{1, 4, 2, 6},
		{3, 2, 4, 7},
	} {
		s := repeat(c.x, impl.MaxSignal)
		n, ok := impl.LeastBits(s, c.stages, c.rate)
		wantNumber(t, fmt.Sprint("least bits ", c), n, ok, c.want)
		wraps, ok := impl.CountWraps(s, n, c.stages)
		if wraps == 0 || !ok {
			t.Error("nothing wraps:", c, wraps, ok)
		}
		exact, _ := impl.ExactComb(s, c.stages, c.rate)
		list, ok := impl.WrappedComb(s, n, c.stages, c.rate)
		wantList(t, fmt.Sprint("wrapped ", c), list, ok, exact)
		list, ok = impl.WrappedComb(s, n-1, c.stages, c.rate)
		if n > 2 && (!ok || slices.Equal(list, exact)) {
			t.Error("one bit less is enough:", c, list, ok)
		}
	}
}

func TestPromise6CombsFail(t *testing.T) {
	for _, s := range badSignals() {
		eachComb(func(stages int, rate int) {
			checkNoExact(t, s, stages, rate)
			checkNoComb(t, s, 8, stages, rate)
		})
	}
	for _, s := range [][]int{nil, {0}, {3, -1, 4}, repeat(1, 8)} {
		eachComb(func(stages int, rate int) {
			for _, bits := range badLongs {
				checkNoComb(t, s, bits, stages, rate)
			}
			for _, bad := range badStages {
				checkNoExact(t, s, bad, rate)
				checkNoComb(t, s, 8, bad, rate)
			}
			for _, bad := range badRates {
				checkNoExact(t, s, stages, bad)
				checkNoComb(t, s, 8, stages, bad)
			}
		})
	}
}
