package tests

import (
	"fmt"
	"testing"

	"loop.example/g01198/impl"
)

// Promise 8: resampled signals have told lengths.

func TestPromise8LengthAfterByHand(t *testing.T) {
	for _, c := range []struct{ n, p, q, want int }{
		{3, 3, 2, 5},
		{0, 1, 1, 0},
		{0, 8, 1, 0},
		{0, 1, 8, 0},
		{1, 1, 1, 1},
		{1, 1, 8, 1},
		{1, 8, 1, 8},
		{8, 1, 8, 1},
		{9, 1, 8, 2},
		{4, 2, 3, 3},
		{5, 4, 2, 10},
		{5, 2, 4, 3},
		{51, 5, 4, 64},
		{52, 5, 4, 65}, // no signal has so many, but a number is told
		{64, 1, 1, 64},
		{64, 8, 8, 64},
		{64, 1, 8, 8},
		{64, 7, 8, 56},
		{64, 8, 1, 512},
		{64, 8, 7, 74},
	} {
		n, ok := impl.LengthAfter(c.n, c.p, c.q)
		wantNumber(t, fmt.Sprint("length ", c), n, ok, c.want)
	}
}

func TestPromise8LengthAfter(t *testing.T) {
	eachRatio(func(p int, q int) {
		length := 0
		for n := 0; n <= impl.MaxSignal; n++ {
			for sourceBy(placeBy(length, p, q)) < n {
				length++
			}
			got, ok := impl.LengthAfter(n, p, q)
			wantNumber(t, fmt.Sprint("length ", n, p, q), got, ok, length)
		}
		for _, n := range badLengths {
			got, ok := impl.LengthAfter(n, p, q)
			wantNoNumber(t, fmt.Sprint("length ", n, p, q), got, ok)
		}
	})
	for _, r := range badRatios() {
		for _, n := range []int{-1, 0, 1, 3, impl.MaxSignal, impl.MaxSignal + 1} {
			got, ok := impl.LengthAfter(n, r[0], r[1])
			wantNoNumber(t, fmt.Sprint("length ", n, r), got, ok)
		}
	}
}

func TestPromise8SourceOfByHand(t *testing.T) {
	for _, c := range []struct{ i, p, q, source, part int }{
		{0, 3, 2, 0, 0},
		{1, 3, 2, 0, 2},
		{2, 3, 2, 1, 1},
		{3, 3, 2, 2, 0},
		{4, 3, 2, 2, 2},
		{0, 1, 1, 0, 0},
		{1000, 1, 1, 1000, 0},
		{1000, 1, 8, 8000, 0},
		{1000, 8, 1, 125, 0},
		{999, 8, 1, 124, 7},
		{1000, 7, 8, 1142, 6},
		{1000, 8, 8, 1000, 0},
		{5, 4, 2, 2, 2}, // at 5 / 2, in quarters
		{5, 2, 1, 2, 1},
		{7, 8, 8, 7, 0},
	} {
		source, part, ok := impl.SourceOf(c.i, c.p, c.q)
		wantTwo(t, fmt.Sprint("source ", c), source, part, ok, c.source, c.part)
	}
}

func TestPromise8SourceOf(t *testing.T) {
	eachRatio(func(p int, q int) {
		source := 0
		for i := 0; i <= 1000; i++ {
			for p*(source+1) <= i*q {
				source++
			}
			a, b, ok := impl.SourceOf(i, p, q)
			wantTwo(t, fmt.Sprint("source ", i, p, q), a, b, ok, source, i*q-p*source)
		}
		for _, i := range []int{minInt, -1, 1001, maxInt} {
			a, b, ok := impl.SourceOf(i, p, q)
			wantNoTwo(t, fmt.Sprint("source ", i, p, q), a, b, ok)
		}
	})
	for _, r := range badRatios() {
		for _, i := range []int{-1, 0, 1, 1000, 1001} {
			a, b, ok := impl.SourceOf(i, r[0], r[1])
			wantNoTwo(t, fmt.Sprint("source ", i, r), a, b, ok)
		}
	}
}

func TestPromise8LeastRatio(t *testing.T) {
	for _, c := range []struct{ p, q, top, bottom int }{
		{1, 1, 1, 1}, {8, 8, 1, 1}, {6, 4, 3, 2}, {4, 6, 2, 3}, {8, 1, 8, 1}, {1, 8, 1, 8}, {7, 5, 7, 5}, {2, 8, 1, 4}, {6, 3, 2, 1},
	} {
		a, b, ok := impl.LeastRatio(c.p, c.q)
		wantTwo(t, fmt.Sprint("least ratio ", c), a, b, ok, c.top, c.bottom)
	}
	eachRatio(func(p int, q int) {
		divisor := 1
		for d := 1; d <= impl.MaxRatio; d++ {
			if p%d == 0 && q%d == 0 {
				divisor = d
			}
		}
		a, b, ok := impl.LeastRatio(p, q)
		wantTwo(t, fmt.Sprint("least ratio ", p, q), a, b, ok, p/divisor, q/divisor)
	})
	for _, r := range badRatios() {
		a, b, ok := impl.LeastRatio(r[0], r[1])
		wantNoTwo(t, fmt.Sprint("least ratio ", r), a, b, ok)
	}
}

func TestPromise8RatesByHand(t *testing.T) {
	s := []int{0, 6, 12}
	for _, c := range []struct {
		s                 []int
		p, q              int
		held, near, lines []int
	}{
		{s, 3, 2, []int{0, 0, 6, 12, 12}, []int{0, 6, 6, 12, 12}, []int{0, 12, 24, 36, 36}},
		{s, 1, 1, s, s, s},
		{s, 5, 5, s, s, []int{0, 30, 60}},
		{s, 2, 1, []int{0, 0, 6, 6, 12, 12}, []int{0, 6, 6, 12, 12, 12}, []int{0, 6, 12, 18, 24, 24}},
		{s, 4, 2, []int{0, 0, 6, 6, 12, 12}, []int{0, 6, 6, 12, 12, 12}, []int{0, 12, 24, 36, 48, 48}},
		{s, 1, 2, []int{0, 12}, []int{0, 12}, []int{0, 12}},
		{s, 1, 3, []int{0}, []int{0}, []int{0}},
		{s, 1, 8, []int{0}, []int{0}, []int{0}},
		{s, 2, 3, []int{0, 6}, []int{0, 12}, []int{0, 18}},
		// At 0, 3/2, 3 and 9/2: twice the part is p at the second one and at the last
		// one, behind which there is no other.
		{[]int{1, -2, 3, -5, 8}, 2, 3, []int{1, -2, -5, 8}, []int{1, 3, -5, 8}, []int{2, 1, -10, 16}},
		{[]int{-7}, 1, 1, []int{-7}, []int{-7}, []int{-7}},
		{[]int{-7}, 4, 1, repeat(-7, 4), repeat(-7, 4), repeat(-28, 4)},
		{[]int{-7}, 3, 8, []int{-7}, []int{-7}, []int{-21}},
		{[]int{5, -5}, 4, 1, []int{5, 5, 5, 5, -5, -5, -5, -5}, []int{5, 5, -5, -5, -5, -5, -5, -5}, []int{20, 10, 0, -10, -20, -20, -20, -20}},
		{[]int{5, -5}, 5, 1, append(repeat(5, 5), repeat(-5, 5)...), append(repeat(5, 3), repeat(-5, 7)...), []int{25, 15, 5, -5, -15, -25, -25, -25, -25, -25}},
		{nil, 1, 1, nil, nil, nil},
		{nil, 8, 1, nil, nil, nil},
		{[]int{}, 1, 8, nil, nil, nil},
	} {
		what := fmt.Sprint(c.s, c.p, c.q)
		list, ok := impl.HoldSamples(c.s, c.p, c.q)
		wantList(t, "held "+what, list, ok, c.held)
		list, ok = impl.NearSamples(c.s, c.p, c.q)
		wantList(t, "near "+what, list, ok, c.near)
		list, ok = impl.LineSamples(c.s, c.p, c.q)
		wantList(t, "lines "+what, list, ok, c.lines)
	}
}

// Each length with each ratio: the results have the told lengths, up to 64
// samples, and there is none with one more.
func TestPromise8Rates(t *testing.T) {
	for _, s := range rateSignals() {
		eachRatio(func(p int, q int) {
			what := fmt.Sprint(s, p, q)
			length, _ := impl.LengthAfter(len(s), p, q)
			held, near, lines := heldBy(s, p, q), nearBy(s, p, q), linesBy(s, p, q)
			list, ok := impl.HoldSamples(s, p, q)
			wantListIf(t, "held "+what, list, ok, held, length <= impl.MaxSignal)
			if ok && len(list) != length {
				t.Error("held ", what, len(list), "samples, not", length)
			}
			list, ok = impl.NearSamples(s, p, q)
			wantListIf(t, "near "+what, list, ok, near, length <= impl.MaxSignal)
			if ok && len(list) != length {
				t.Error("near ", what, len(list), "samples, not", length)
			}
			list, ok = impl.LineSamples(s, p, q)
			wantListIf(t, "lines "+what, list, ok, lines, isExact(lines))
			if ok && len(list) != length {
				t.Error("lines ", what, len(list), "samples, not", length)
			}
		})
	}
}

func TestPromise8LongestResults(t *testing.T) {
	for _, c := range []struct {
		n, p, q int
		fits    bool
	}{
		{51, 5, 4, true}, // 64
		{52, 5, 4, false},
		{8, 8, 1, true},
		{9, 8, 1, false},
		{64, 1, 1, true},
		{64, 3, 3, true},
		{64, 7, 8, true},
		{64, 8, 7, false},
		{56, 8, 7, true},
		{57, 8, 7, false},
	} {
		s := repeat(4, c.n)
		length, _ := impl.LengthAfter(c.n, c.p, c.q)
		list, ok := impl.HoldSamples(s, c.p, c.q)
		wantListIf(t, fmt.Sprint("held ", c), list, ok, repeat(4, length), c.fits)
		list, ok = impl.NearSamples(s, c.p, c.q)
		wantListIf(t, fmt.Sprint("near ", c), list, ok, repeat(4, length), c.fits)
		list, ok = impl.LineSamples(s, c.p, c.q)
		wantListIf(t, fmt.Sprint("lines ", c), list, ok, repeat(4*c.p, length), c.fits)
	}
}

// Only what is made must be samples: neither those that no place is at, nor the
// p-fold of those that no place is just at.
func TestPromise8LinesAtTheLimits(t *testing.T) {
	for p := 1; p <= impl.MaxRatio; p++ {
		most := impl.MaxSample / p
		for _, x := range []int{most, -most, most + 1, -most - 1} {
			what := fmt.Sprint(x, " ", p)
			fits := x*p <= impl.MaxSample && -x*p <= impl.MaxSample
			list, ok := impl.LineSamples([]int{x}, p, p)
			wantListIf(t, "lines "+what, list, ok, []int{x * p}, fits)
			list, ok = impl.LinesOfSame([]int{x, x}, p)
			wantListIf(t, "lines "+what, list, ok, repeat(x*p, 2*p), fits)
			list, ok = impl.LinesOfSame([]int{0, 0, x}, p)
			wantListIf(t, "lines at the end "+what, list, ok, linesBy([]int{0, 0, x}, p, 1), fits)
			if p > 1 {
				list, ok = impl.LineSamples([]int{1, x, 2}, p, p)
				wantListIf(t, "lines in the middle "+what, list, ok, []int{p, x * p, 2 * p}, fits)
			}
		}
	}
	most := impl.MaxSample
	for _, c := range []struct {
		s    []int
		p, q int
		want []int
	}{
		{[]int{12500, -12500}, 8, 4, []int{most, 0, -most, -most}},
		{[]int{0, most, 3, most, -5}, 2, 4, []int{0, 6, -10}}, // none at 1 and at 3
		{[]int{0, 40000, 0}, 3, 2, []int{0, 80000, 80000, 0, 0}},
		{[]int{0, 50000, 0}, 3, 2, []int{0, most, most, 0, 0}},
		{[]int{0, -50000, 0}, 3, 2, []int{0, -most, -most, 0, 0}},
		{[]int{0, 50001, 0}, 3, 2, nil},
		{[]int{0, -50001, 0}, 3, 2, nil},
		{[]int{0, 12501}, 8, 1, nil},
		{[]int{-12501, 0}, 8, 1, nil},
		{[]int{most}, 1, 8, []int{most}},
		{[]int{-most, most}, 1, 1, []int{-most, most}},
		{[]int{most}, 2, 8, nil},
	} {
		list, ok := impl.LineSamples(c.s, c.p, c.q)
		wantListIf(t, fmt.Sprint("lines ", c), list, ok, c.want, c.want != nil)
	}
}

func TestPromise8LinesOfSame(t *testing.T) {
	list, ok := impl.LinesOfSame([]int{3, -3}, 3)
	wantList(t, "lines", list, ok, []int{9, 3, -3, -9, -9, -9})
	for _, s := range rateSignals() {
		for p := 1; p <= impl.MaxRatio; p++ {
			want := linesBy(s, p, 1)
			list, ok := impl.LinesOfSame(s, p)
			wantListIf(t, fmt.Sprint("lines ", s, p), list, ok, want, isExact(want))
		}
		for _, p := range badTerms {
			list, ok := impl.LinesOfSame(s, p)
			wantNoList(t, fmt.Sprint("lines ", s, p), list, ok)
		}
	}
	for _, s := range badSignals() {
		for p := 1; p <= impl.MaxRatio; p++ {
			list, ok := impl.LinesOfSame(s, p)
			wantNoList(t, fmt.Sprint("lines ", s, p), list, ok)
		}
	}
}

// A ratio holds the same samples as the one in lowest terms, and its lines are as
// many times higher as its numbers are greater.
func TestPromise8RatiosInLowestTerms(t *testing.T) {
	source := numberSource(81)
	for _, length := range []int{0, 1, 2, 7, 8} {
		s := source.list(length, 1000)
		eachRatio(func(p int, q int) {
			what := fmt.Sprint(s, p, q)
			least, other, ok := impl.LeastRatio(p, q)
			if !ok {
				t.Fatal("no least ratio", what)
			}
			held, _ := impl.HoldSamples(s, least, other)
			list, ok := impl.HoldSamples(s, p, q)
			wantList(t, "held "+what, list, ok, held)
			near, _ := impl.NearSamples(s, least, other)
			list, ok = impl.NearSamples(s, p, q)
			wantList(t, "near "+what, list, ok, near)
			lines, _ := impl.LineSamples(s, least, other)
			lines, _ = impl.ScaleSignal(lines, p/least)
			list, ok = impl.LineSamples(s, p, q)
			wantList(t, "lines "+what, list, ok, lines)
		})
	}
}

func TestPromise8RatesFail(t *testing.T) {
	for _, s := range badSignals() {
		eachRatio(func(p int, q int) { checkNoRate(t, s, p, q) })
	}
	for _, s := range [][]int{nil, {}, {0}, {3, -1, 4}, repeat(1, impl.MaxSignal), repeat(1, impl.MaxSignal+1)} {
		for _, r := range badRatios() {
			checkNoRate(t, s, r[0], r[1])
		}
	}
}
