package tests

import (
	"fmt"
	"testing"

	"loop.example/g01198/impl"
)

// Promise 8: signals are split into bands of half as many samples each, which are
// joined to the same signals again.

const maxSample = impl.MaxSample

func TestPromise8BandsByHand(t *testing.T) {
	for _, c := range []struct{ s, low, high []int }{
		{[]int{7, 2}, []int{4}, []int{5}},
		{[]int{2, 7}, []int{4}, []int{-5}},
		{[]int{0, 0}, []int{0}, []int{0}},
		{[]int{-3, 0}, []int{-2}, []int{-3}},
		{[]int{0, -3}, []int{-2}, []int{3}},
		{[]int{-1, 0}, []int{-1}, []int{-1}},
		{[]int{1, -2}, []int{-1}, []int{3}},
		{[]int{-1, -1}, []int{-1}, []int{0}},
		{[]int{1, 0}, []int{0}, []int{1}},
		{[]int{3, -1, 4, 4, -6, -9}, []int{1, 4, -8}, []int{4, 0, 3}},
		{[]int{maxSample, maxSample}, []int{maxSample}, []int{0}},
		{[]int{-maxSample, -maxSample}, []int{-maxSample}, []int{0}},
		{[]int{maxSample, 0}, []int{maxSample / 2}, []int{maxSample}},
		{[]int{0, maxSample}, []int{maxSample / 2}, []int{-maxSample}},
		{[]int{-maxSample, 0}, []int{-maxSample / 2}, []int{-maxSample}},
		{[]int{maxSample, maxSample - 1}, []int{maxSample - 1}, []int{1}},
		{[]int{1 - maxSample, -maxSample}, []int{-maxSample}, []int{1}},
		{[]int{maxSample / 2, -maxSample / 2}, []int{0}, []int{maxSample}},
		{[]int{-maxSample / 2, maxSample / 2}, []int{0}, []int{-maxSample}},
		{repeat(-17, 64), repeat(-17, 32), repeat(0, 32)},
		{nil, nil, nil},
		{[]int{}, nil, nil},
	} {
		low, high, ok := impl.TwoBands(c.s)
		wantTwoLists(t, fmt.Sprint("bands ", c.s), low, high, ok, c.low, c.high)
		s, ok := impl.JoinBands(c.low, c.high)
		wantList(t, fmt.Sprint("joined ", c.low, c.high), s, ok, c.s)
	}
}

func TestPromise8TwoBandsFail(t *testing.T) {
	for _, s := range [][]int{
		{0},
		{maxSample},
		{3, -1, 4},
		repeat(1, 63),
		{maxSample, -1},
		{-1, maxSample},
		{-maxSample, 1},
		{1, -maxSample},
		{maxSample, -maxSample},
		{0, 0, -maxSample, maxSample},
		append(repeat(0, 62), maxSample, -1),
	} {
		low, high, ok := impl.TwoBands(s)
		wantNoTwoLists(t, fmt.Sprint("bands ", s), low, high, ok)
	}
	for _, s := range badSignals() {
		low, high, ok := impl.TwoBands(s)
		wantNoTwoLists(t, fmt.Sprint("bands ", s), low, high, ok)
	}
}

func TestPromise8JoinBandsFail(t *testing.T) {
	for _, c := range []struct{ low, high []int }{
		{nil, []int{0}},
		{[]int{0}, nil},
		{[]int{1, 2}, []int{1}},
		{[]int{1}, []int{1, 2}},
		{repeat(0, 32), repeat(0, 31)},
		{repeat(0, 33), repeat(0, 33)}, // two samples too many
		{repeat(0, 64), repeat(0, 64)},
		{repeat(0, 65), repeat(0, 65)},
		{[]int{maxSample}, []int{1}}, // 100001 and 100000
		{[]int{maxSample}, []int{2}},
		{[]int{maxSample}, []int{-1}},
		{[]int{-maxSample}, []int{2}},
		{[]int{-maxSample}, []int{-2}},
		{[]int{0, 99999}, []int{0, 3}},   // 100001 and 99998
		{[]int{0}, []int{maxSample + 1}}, // 50001 and -50000, which have no bands
		{[]int{0}, []int{-maxSample - 1}},
		{[]int{0}, []int{maxSample + 2}},
		{[]int{maxSample + 1}, []int{0}},
		{[]int{-maxSample - 1}, []int{0}},
		{[]int{maxSample + 1}, []int{-1}},
		{[]int{-maxSample - 1}, []int{1}},
		{[]int{maxInt}, []int{0}},
		{[]int{minInt}, []int{0}},
		{[]int{0}, []int{maxInt}},
		{[]int{0}, []int{minInt}},
		{[]int{maxInt}, []int{maxInt}},
		{[]int{minInt}, []int{minInt}},
	} {
		s, ok := impl.JoinBands(c.low, c.high)
		wantNoList(t, fmt.Sprint("joined ", c.low, c.high), s, ok)
	}
	for _, bad := range badSignals() {
		for _, good := range goodSignals() {
			s, ok := impl.JoinBands(bad, good)
			wantNoList(t, fmt.Sprint("joined ", bad, good), s, ok)
			s, ok = impl.JoinBands(good, bad)
			wantNoList(t, fmt.Sprint("joined ", good, bad), s, ok)
		}
		s, ok := impl.JoinBands(bad, bad)
		wantNoList(t, fmt.Sprint("joined ", bad, bad), s, ok)
	}
}

// floorHalf is the greatest whole number of which twice is not greater.
func floorHalf(x int) int {
	half := x / 2
	if 2*half > x {
		half--
	}
	return half
}

// bandNumbers are small, and near each limit and its half.
func bandNumbers() []int {
	var numbers []int
	for _, middle := range []int{0, maxSample, -maxSample, maxSample / 2, -maxSample / 2} {
		for x := middle - 6; x <= middle+6; x++ {
			if inLimits([]int{x}, 1, maxSample) {
				numbers = append(numbers, x)
			}
		}
	}
	return numbers
}

func TestPromise8BandsOfAllPairs(t *testing.T) {
	for _, x := range bandNumbers() {
		for _, y := range bandNumbers() {
			s := []int{x, y}
			low, high, ok := impl.TwoBands(s)
			if d := x - y; d > maxSample || -d > maxSample {
				wantNoTwoLists(t, fmt.Sprint("bands ", s), low, high, ok)
				continue
			}
			wantTwoLists(t, fmt.Sprint("bands ", s), low, high, ok, []int{floorHalf(x + y)}, []int{x - y})
			list, ok := impl.JoinBands(low, high)
			wantList(t, fmt.Sprint("joined ", low, high), list, ok, s)
		}
	}
}

// All pairs of bands: they come from the one signal that has them, or from none.
func TestPromise8JoinBandsOfAllPairs(t *testing.T) {
	for _, low := range bandNumbers() {
		for _, high := range bandNumbers() {
			var want []int
			for _, sum := range []int{2 * low, 2*low + 1} {
				if (sum+high)%2 == 0 {
					x := floorHalf(sum + high)
					want = []int{x, x - high}
				}
			}
			list, ok := impl.JoinBands([]int{low}, []int{high})
			what := fmt.Sprint(low, " ", high)
			wantListIf(t, "joined "+what, list, ok, want, isExact(want))
			if ok {
				a, b, ok := impl.TwoBands(list)
				wantTwoLists(t, "bands "+what, a, b, ok, []int{low}, []int{high})
			}
		}
	}
}

func TestPromise8Bands(t *testing.T) {
	source := numberSource(86)
	for _, size := range []int{1, 9, 1000, maxSample / 2, maxSample} {
		for length := 0; length <= impl.MaxSignal; length++ {
			s := source.list(length, size)
			var wantLow, wantHigh []int
			for i := 0; i+1 < length; i += 2 {
				wantLow = append(wantLow, floorHalf(s[i]+s[i+1]))
				wantHigh = append(wantHigh, s[i]-s[i+1])
			}
			low, high, ok := impl.TwoBands(s)
			if length%2 == 1 || !isExact(wantHigh) {
				wantNoTwoLists(t, fmt.Sprint("bands ", s), low, high, ok)
				continue
			}
			wantTwoLists(t, fmt.Sprint("bands ", s), low, high, ok, wantLow, wantHigh)
			list, ok := impl.JoinBands(low, high)
			wantList(t, fmt.Sprint("joined ", low, high), list, ok, s)
		}
	}
}
