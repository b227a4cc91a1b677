package tests

import (
	"fmt"
	"testing"

	"loop.example/g01198/impl"
)

// Promise 6: wrapped rises are exact ones wrapped, and blocks have their means.

func TestPromise6StuffZerosByHand(t *testing.T) {
	for _, c := range []struct {
		s    []int
		rate int
		want []int
	}{
		{[]int{3, -1}, 1, []int{3, -1}},
		{[]int{3, -1}, 2, []int{3, 0, -1, 0}},
		{[]int{3, -1}, 3, []int{3, 0, 0, -1, 0, 0}},
		{[]int{impl.MaxSample}, 8, []int{impl.MaxSample, 0, 0, 0, 0, 0, 0, 0}},
		{nil, 1, nil},
		{nil, 8, nil},
	} {
		list, ok := impl.StuffZeros(c.s, c.rate)
		wantList(t, fmt.Sprint("stuffed ", c), list, ok, c.want)
	}
}

// Each length with each rate: from one on, the zeros make too many samples.
func TestPromise6StuffZerosAtTheLimit(t *testing.T) {
	for rate := 1; rate <= impl.MaxRate; rate++ {
		for length := 0; length <= impl.MaxSignal; length++ {
			s := repeat(-7, length)
			fits := length*rate <= impl.MaxSignal
			what := fmt.Sprint(length, " ", rate)
			list, ok := impl.StuffZeros(s, rate)
			wantListIf(t, "stuffed "+what, list, ok, stuffedBy(s, rate), fits)
			list, ok = impl.ExactRise(s, 1, rate)
			wantListIf(t, "exact "+what, list, ok, risenBy(s, 1, rate), fits)
			list, ok = impl.WrappedRise(s, 4, 1, rate)
			wantListIf(t, "wrapped "+what, list, ok, risenBy(s, 1, rate), fits)
		}
	}
}

func TestPromise6ExactRiseByHand(t *testing.T) {
	for _, c := range []struct {
		s            []int
		stages, rate int
		want         []int
	}{
		{[]int{1, 2}, 1, 1, []int{1, 2}},
		{[]int{1, 2}, 4, 1, []int{1, 2}},
		{[]int{3, -1}, 1, 3, []int{3, 3, 3, -1, -1, -1}},
		{[]int{1, 2}, 2, 2, []int{1, 2, 3, 4}},
		{[]int{1, 0, 0}, 4, 2, []int{1, 4, 6, 4, 1, 0}},
		{[]int{25000}, 4, 2, []int{25000, 100000}}, // 150000 would come behind it
		{[]int{impl.MaxSample}, 1, 8, repeat(impl.MaxSample, 8)},
		{nil, 1, 1, nil},
		{nil, 4, 8, nil},
	} {
		list, ok := impl.ExactRise(c.s, c.stages, c.rate)
		wantList(t, fmt.Sprint("exact ", c), list, ok, c.want)
	}
	for _, c := range []struct {
		s            []int
		stages, rate int
	}{
		{[]int{25001}, 4, 2},
		{[]int{-25001}, 4, 2},
		{[]int{impl.MaxSample}, 2, 2},
		{[]int{0, 0, 0, 0, 0, 0, 0, -impl.MaxSample}, 4, 8},
	} {
		list, ok := impl.ExactRise(c.s, c.stages, c.rate)
		wantNoList(t, fmt.Sprint("exact ", c), list, ok)
		list, ok = impl.WrappedRise(c.s, impl.MaxLong, c.stages, c.rate)
		wantList(t, fmt.Sprint("wrapped ", c), list, ok, risenBy(c.s, c.stages, c.rate))
	}
}

func TestPromise6WrappedRiseByHand(t *testing.T) {
	for _, c := range []struct {
		s                  []int
		bits, stages, rate int
		want               []int
	}{
		{[]int{1, 2}, 4, 2, 2, []int{1, 2, 3, 4}},
		{[]int{1, 2}, 3, 2, 2, []int{1, 2, 3, -4}},
		{[]int{1, 2}, 2, 2, 2, []int{1, -2, -1, 0}},
		{[]int{7, -8}, 4, 1, 2, []int{7, 7, -8, -8}},
		{[]int{8, -9}, 4, 1, 2, []int{-8, -8, 7, 7}},
		{[]int{25001}, impl.MaxLong, 4, 2, []int{25001, 100004}},
		{nil, 2, 4, 8, nil},
	} {
		list, ok := impl.WrappedRise(c.s, c.bits, c.stages, c.rate)
		wantList(t, fmt.Sprint("wrapped ", c), list, ok, c.want)
	}
}

func checkRise(t *testing.T, s []int, stages int, rate int) {
	t.Helper()
	what := fmt.Sprint(s, stages, rate)
	fits := len(s)*rate <= impl.MaxSignal
	list, ok := impl.StuffZeros(s, rate)
	wantListIf(t, "stuffed "+what, list, ok, stuffedBy(s, rate), fits)
	want := risenBy(s, stages, rate)
	list, ok = impl.ExactRise(s, stages, rate)
	wantListIf(t, "exact "+what, list, ok, want, isExact(want))
	for bits := 2; bits <= impl.MaxLong; bits++ {
		list, ok := impl.WrappedRise(s, bits, stages, rate)
		wantListIf(t, fmt.Sprint("wrapped ", bits, what), list, ok, allWrapped(want, bits), fits)
	}
}

func TestPromise6Rises(t *testing.T) {
	for _, s := range combSignals() {
		eachComb(func(stages int, rate int) { checkRise(t, s, stages, rate) })
	}
}

func TestPromise6RisesOfAllShortSignals(t *testing.T) {
	eachList(4, []int{-2, -1, 0, 3}, func(s []int) {
		for stages := 1; stages <= impl.MaxStages; stages++ {
			for rate := 1; rate <= 4; rate++ {
				checkRise(t, s, stages, rate)
			}
		}
	})
}

func TestPromise6StuffZerosFails(t *testing.T) {
	for _, s := range badSignals() {
		for rate := 1; rate <= impl.MaxRate; rate++ {
			list, ok := impl.StuffZeros(s, rate)
			wantNoList(t, fmt.Sprint("stuffed ", s, rate), list, ok)
		}
	}
	for _, s := range [][]int{nil, {0}, {3, -1, 4}} {
		for _, rate := range badRates {
			list, ok := impl.StuffZeros(s, rate)
			wantNoList(t, fmt.Sprint("stuffed ", s, rate), list, ok)
		}
	}
}

func TestPromise6MeanBlocksByHand(t *testing.T) {
	ones := repeat(-1, 8)
	half := []int{-1, -1, 0, -1, -1, 0, 0, 0}
	most := repeat(impl.MaxSample, impl.MaxSignal)
	for _, c := range []struct {
		s                []int
		rate             int
		down, near, zero []int
	}{
		{[]int{3, -1, 4}, 1, []int{3, -1, 4}, []int{3, -1, 4}, []int{3, -1, 4}},
		{[]int{-1, -2}, 2, []int{-2}, []int{-1}, []int{-1}},
		{[]int{1, 2}, 2, []int{1}, []int{2}, []int{1}},
		{[]int{-1, -2, 5}, 2, []int{-2}, []int{-1}, []int{-1}},
		{[]int{-1, 0, 0, 1, 2, -5}, 2, []int{-1, 0, -2}, []int{0, 1, -1}, []int{0, 0, -1}},
		{[]int{-1, -2, -3, -4}, 4, []int{-3}, []int{-2}, []int{-2}},
		{[]int{-1, -2, -3, -1}, 4, []int{-2}, []int{-2}, []int{-1}},
		{[]int{1, 2, 3}, 4, nil, nil, nil},
		{half, 8, []int{-1}, []int{0}, []int{0}},
		{half[:7], 8, nil, nil, nil},
		{ones, 8, []int{-1}, []int{-1}, []int{-1}},
		{ones, 4, []int{-1, -1}, []int{-1, -1}, []int{-1, -1}},
		{most, 8, most[:8], most[:8], most[:8]},
		{nil, 1, nil, nil, nil},
		{nil, 8, nil, nil, nil},
	} {
		for mode, want := range [][]int{c.down, c.near, c.zero} {
			list, ok := impl.MeanBlocks(c.s, c.rate, mode)
			wantList(t, fmt.Sprint("means ", mode, c), list, ok, want)
		}
	}
}

func TestPromise6MeanBlocks(t *testing.T) {
	for _, s := range combSignals() {
		for exponent, rate := range []int{1, 2, 4, 8} {
			for _, mode := range modes {
				var want []int
				for i := 0; i+rate <= len(s); i += rate {
					want = append(want, rounded(t, total(s[i:i+rate]), exponent, mode))
				}
				list, ok := impl.MeanBlocks(s, rate, mode)
				wantList(t, fmt.Sprint("means ", s, rate, mode), list, ok, want)
			}
		}
	}
}

func TestPromise6MeanBlocksFail(t *testing.T) {
	for _, s := range badSignals() {
		for _, rate := range []int{1, 2, 4, 8} {
			for _, mode := range modes {
				list, ok := impl.MeanBlocks(s, rate, mode)
				wantNoList(t, fmt.Sprint("means ", s, rate, mode), list, ok)
			}
		}
	}
	for _, s := range [][]int{nil, {0}, {3, -1, 4}, repeat(1, impl.MaxSignal)} {
		for _, mode := range modes {
			for _, rate := range append([]int{3, 5, 6, 7}, badRates...) {
				list, ok := impl.MeanBlocks(s, rate, mode)
				wantNoList(t, fmt.Sprint("means ", s, rate, mode), list, ok)
			}
		}
		for _, mode := range badModes {
			for rate := 1; rate <= impl.MaxRate; rate++ {
				list, ok := impl.MeanBlocks(s, rate, mode)
				wantNoList(t, fmt.Sprint("means ", s, rate, mode), list, ok)
			}
		}
	}
}
