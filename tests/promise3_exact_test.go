package tests

import (
	"fmt"
	"math/big"
	"slices"
	"testing"

	"loop.example/g01198/impl"
)

// Promise 3: runs come near exact numbers.

func TestPromise3IsShrinking(t *testing.T) {
	for shift := 0; shift <= 10; shift++ {
		whole := 1 << shift
		for _, mode := range modes {
			for a, want := range map[int]bool{0: true, whole - 1: true, 1 - whole: true, whole: false, -whole: false, whole + 1: false, -whole - 1: false} {
				f := first(a, shift, mode, hold(4))
				is, ok := impl.IsShrinking(f)
				if impl.IsFirst(f) {
					wantFlag(t, fmt.Sprint("shrinking ", f), is, ok, want)
				} else {
					wantNoFlag(t, fmt.Sprint("shrinking ", f), is, ok)
				}
			}
		}
	}
	for _, f := range badFirsts() {
		is, ok := impl.IsShrinking(f)
		wantNoFlag(t, fmt.Sprint("shrinking ", f), is, ok)
	}
}

func TestPromise3GainByHand(t *testing.T) {
	for _, c := range []struct{ a, shift, top, bottom int }{
		{1, 1, 2, 1},
		{0, 0, 1, 1},
		{0, 5, 1, 1},
		{-1, 1, 2, 3},
		{3, 1, -2, 1},
		{4, 1, -1, 1},
		{2, 0, -1, 1},
		{3, 0, -1, 2},
		{-1, 0, 1, 2},
		{6, 3, 4, 1},
		{-6, 3, 4, 7},
		{12, 3, -2, 1},
		{14, 3, -4, 3},
		{1024, 0, -1, 1023},
		{-1024, 0, 1, 1025},
		{1023, 10, 1024, 1},
		{-1024, 10, 1, 2},
		{-1023, 10, 1024, 2047},
		{512, 9, 0, 0},
		{1024, 10, 0, 0},
		{1, 0, 0, 0},
		{8, 3, 0, 0},
		{513, 9, -512, 1},
		{511, 9, 512, 1},
	} {
		for _, mode := range modes {
			for _, w := range []impl.Word{hold(2), wrap(4), hold(16)} {
				what := fmt.Sprint("gain ", c, mode, w)
				a, b, ok := impl.GainOfFirst(first(c.a, c.shift, mode, w))
				if c.bottom == 0 {
					wantNoTwo(t, what, a, b, ok)
				} else {
					wantTwo(t, what, a, b, ok, c.top, c.bottom)
				}
			}
		}
	}
}

// wantRatio wants the terms of a ratio, lowest as those of big.Rat are.
func wantRatio(t *testing.T, what string, top int, bottom int, ok bool, want *big.Rat) {
	t.Helper()
	wantTwo(t, what, top, bottom, ok, int(want.Num().Int64()), int(want.Denom().Int64()))
}

func TestPromise3GainsAndBounds(t *testing.T) {
	for shift := 0; shift <= 10; shift++ {
		whole := int64(1 << shift)
		for a := -1024; a <= 1024; a++ {
			size := max(int64(a), int64(-a))
			for _, mode := range modes {
				f := first(a, shift, mode, hold(4))
				what := fmt.Sprint(f)
				top, bottom, ok := impl.GainOfFirst(f)
				if int64(a) == whole {
					wantNoTwo(t, "gain "+what, top, bottom, ok)
				} else {
					wantRatio(t, "gain "+what, top, bottom, ok, big.NewRat(whole, whole-int64(a)))
				}
				top, bottom, ok = impl.ErrorBound(f)
				if size >= whole {
					wantNoTwo(t, "bound "+what, top, bottom, ok)
				} else if mode == impl.RoundNear {
					wantRatio(t, "bound "+what, top, bottom, ok, big.NewRat(whole, 2*(whole-size)))
				} else {
					wantRatio(t, "bound "+what, top, bottom, ok, big.NewRat(whole, whole-size))
				}
			}
		}
	}
}

func TestPromise3BoundByHand(t *testing.T) {
	for _, c := range []struct{ a, shift, top, bottom, nearTop, nearBottom int }{
		{1, 1, 2, 1, 1, 1},
		{-1, 1, 2, 1, 1, 1},
		{0, 0, 1, 1, 1, 2},
		{0, 7, 1, 1, 1, 2},
		{3, 2, 4, 1, 2, 1},
		{-3, 2, 4, 1, 2, 1},
		{1, 2, 4, 3, 2, 3},
		{2, 2, 2, 1, 1, 1},
		{-5, 3, 8, 3, 4, 3},
		{1023, 10, 1024, 1, 512, 1},
		{-1023, 10, 1024, 1, 512, 1},
	} {
		for _, w := range []impl.Word{hold(2), wrap(4), hold(16)} {
			what := fmt.Sprint("bound ", c, w)
			for _, mode := range []int{impl.RoundDown, impl.RoundZero} {
				a, b, ok := impl.ErrorBound(first(c.a, c.shift, mode, w))
				wantTwo(t, what, a, b, ok, c.top, c.bottom)
			}
			a, b, ok := impl.ErrorBound(first(c.a, c.shift, impl.RoundNear, w))
			wantTwo(t, what, a, b, ok, c.nearTop, c.nearBottom)
		}
	}
	for _, c := range [][2]int{{1, 0}, {-1, 0}, {2, 1}, {-2, 1}, {3, 1}, {-3, 1}, {1024, 10}, {-1024, 10}, {1024, 0}, {-1024, 0}} {
		for _, mode := range modes {
			a, b, ok := impl.ErrorBound(first(c[0], c[1], mode, hold(4)))
			wantNoTwo(t, fmt.Sprint("bound ", c), a, b, ok)
		}
	}
}

func TestPromise3GainAndBoundFail(t *testing.T) {
	for _, f := range badFirsts() {
		a, b, ok := impl.GainOfFirst(f)
		wantNoTwo(t, fmt.Sprint("gain ", f), a, b, ok)
		a, b, ok = impl.ErrorBound(f)
		wantNoTwo(t, fmt.Sprint("bound ", f), a, b, ok)
	}
}

func TestPromise3ExactByHand(t *testing.T) {
	for _, c := range []struct {
		a, shift, y int
		s, want     []int
	}{
		{1, 1, 7, repeat(0, 3), repeat(7, 3)},
		{1, 1, 0, repeat(1, 3), []int{2, 6, 14}},
		{-1, 1, 5, []int{3, -1}, []int{1, -5}},
		{3, 0, 1, []int{0, 1, -2}, []int{3, 10, 28}},
		{0, 2, 5, []int{3, -1, 4}, []int{12, -16, 256}},
		{1024, 10, 2, []int{0, 1}, []int{2048, 3145728}},
		{1, 1, 5, nil, nil},
		{1000, 0, 1000, []int{0, 0, 0}, nil},
	} {
		for _, w := range []impl.Word{hold(4), wrap(4), hold(16)} {
			for _, mode := range modes {
				what := fmt.Sprint("exact ", c, w)
				f := first(c.a, c.shift, mode, w)
				list, ok := impl.ExactFirst(f, c.y, c.s)
				if c.y > 7 && w.Bits == 4 {
					wantNoList(t, what, list, ok)
				} else if c.y > 7 {
					wantList(t, what, list, ok, []int{1000000, 1000000000, impl.MaxNumber})
				} else {
					wantList(t, what, list, ok, c.want)
				}
			}
		}
	}
}

// Exact numbers that just are numbers of chapter 1, and that just are not.
func TestPromise3ExactAtTheLimits(t *testing.T) {
	thousand := first(1000, 0, impl.RoundDown, hold(16))
	for _, c := range []struct {
		f    impl.First
		y    int
		s    []int
		want []int
	}{
		{thousand, 1000, []int{0, 0, 0}, []int{1000000, 1000000000, impl.MaxNumber}},
		{thousand, 1000, []int{0, 0, 1}, nil},
		{thousand, 1000, []int{0, 0, -1}, []int{1000000, 1000000000, impl.MaxNumber - 1}},
		{thousand, -1000, []int{0, 0, 0}, []int{-1000000, -1000000000, -impl.MaxNumber}},
		{thousand, -1000, []int{0, 0, -1}, nil},
		{thousand, -1000, []int{0, 0, 1}, []int{-1000000, -1000000000, 1 - impl.MaxNumber}},
		{thousand, 1000, []int{0, 0, 0, 0}, nil},
		{thousand, 0, []int{1000, 0, 0, 0}, []int{1000, 1000000, 1000000000, impl.MaxNumber}},
		{thousand, 0, []int{1001, 0, 0, 0}, nil},
		{first(0, 10, impl.RoundDown, hold(16)), 9, []int{100000, 0, 931}, []int{102400000, 0, 999653638144}},
		{first(0, 10, impl.RoundDown, hold(16)), 9, []int{0, 0, -931}, []int{0, 0, -999653638144}},
		{first(0, 10, impl.RoundDown, hold(16)), 9, []int{100000, 0, 932}, nil},
		{first(0, 10, impl.RoundDown, hold(16)), 9, []int{0, 0, -932}, nil},
		// One number is too great, and those behind it would not be.
		{first(0, 5, impl.RoundDown, hold(16)), 0, []int{0, 0, 0, 0, 100000, 0}, nil},
		{first(0, 5, impl.RoundDown, hold(16)), 0, []int{0, 0, 0, 0, 29802, 0}, []int{0, 0, 0, 0, 999989182464, 0}},
		{first(0, 5, impl.RoundDown, hold(16)), 0, []int{0, 0, 0, 0, 29803, 0}, nil},
	} {
		list, ok := impl.ExactFirst(c.f, c.y, c.s)
		wantListIf(t, fmt.Sprint("exact ", c), list, ok, c.want, c.want != nil)
	}
}

// 2^39 is a number of chapter 1, and 2^40 is none, whatever the exact numbers are.
func TestPromise3ExactNeedsPowers(t *testing.T) {
	for shift := 0; shift <= 10; shift++ {
		for n := 0; n <= impl.MaxSignal; n++ {
			for _, a := range []int{0, 1, -1} {
				list, ok := impl.ExactFirst(first(a, shift, impl.RoundNear, hold(4)), 0, repeat(0, n))
				wantListIf(t, fmt.Sprint("exact ", a, shift, n), list, ok, repeat(0, n), n*shift <= 39)
			}
		}
	}
}

// exactBy makes exact numbers by the definition alone: the run without
// rounding and fitting, in ratios, and then times 2^(n shift).
func exactBy(f impl.First, y int, s []int) ([]int, bool) {
	part := big.NewRat(int64(f.A), int64(1)<<f.Shift)
	run, scale := big.NewRat(int64(y), 1), big.NewRat(1, 1)
	limit := big.NewRat(impl.MaxNumber, 1)
	exact := make([]int, len(s))
	for i, x := range s {
		run.Mul(run, part).Add(run, big.NewRat(int64(x), 1))
		scale.Mul(scale, big.NewRat(int64(1)<<f.Shift, 1))
		number := new(big.Rat).Mul(run, scale)
		if scale.Cmp(limit) > 0 || new(big.Rat).Abs(number).Cmp(limit) > 0 {
			return nil, false
		}
		exact[i] = int(number.Num().Int64())
	}
	return exact, true
}

func TestPromise3Exact(t *testing.T) {
	source := numberSource(22)
	for _, w := range []impl.Word{hold(2), wrap(6), hold(16)} {
		for _, f := range firstsOf(w) {
			signals := [][]int{{impl.MaxSample, -impl.MaxSample, impl.MaxSample}, {-impl.MaxSample}, {1, 0, 0, 0, 0, 0, 0, 0, 1}, nil}
			for range 6 {
				signals = append(signals, source.list(4+source.next(4), 1000), source.list(30+source.next(30), 9))
			}
			for _, y := range someNumbers(w) {
				for _, s := range signals {
					want, is := exactBy(f, y, s)
					list, ok := impl.ExactFirst(f, y, s)
					wantListIf(t, fmt.Sprint("exact ", f, y, s), list, ok, want, is)
				}
			}
		}
	}
}

// distance tells how far a run is from its exact numbers at most.
func distance(f impl.First, run []int, exact []int) *big.Rat {
	most := new(big.Rat)
	for i := range run {
		d := big.NewRat(int64(exact[i]), int64(1)<<((i+1)*f.Shift))
		d.Sub(d, big.NewRat(int64(run[i]), 1)).Abs(d)
		if d.Cmp(most) > 0 {
			most = d
		}
	}
	return most
}

func TestPromise3RunsComeNearExactNumbers(t *testing.T) {
	source := numberSource(23)
	near := map[int]int{}
	for shift := 0; shift <= 5; shift++ {
		// So long that the exact numbers still are numbers.
		length := min(12, 25/max(1, shift))
		for a := 1 - 1<<shift; a < 1<<shift; a++ {
			for _, mode := range modes {
				f := first(a, shift, mode, hold(12))
				top, bottom, ok := impl.ErrorBound(f)
				if !ok {
					t.Fatal("no bound", f)
				}
				bound := big.NewRat(int64(top), int64(bottom))
				for _, s := range [][]int{repeat(0, length), repeat(1, length), repeat(-1, length), source.list(length, 30), source.list(4, 200)} {
					y := source.next(1000)
					run, ok := impl.RunFirst(f, y, s)
					exact, ok1 := impl.ExactFirst(f, y, s)
					fits, ok2 := impl.CountFits(f, y, s)
					if !ok || !ok1 || !ok2 || fits != 0 {
						t.Fatal("no such run", f, y, s)
					}
					d := distance(f, run, exact)
					if d.Cmp(bound) > 0 {
						t.Error("too far:", f, y, s, d, bound)
					}
					if twice := new(big.Rat).Add(d, d); twice.Cmp(bound) > 0 {
						near[mode]++
					}
				}
			}
		}
	}
	for _, mode := range modes {
		if near[mode] < 20 {
			t.Error("no test of the bound: too few runs are half as far", mode, near[mode])
		}
	}
}

// A run that stays at 1, where a half is rounded up, comes nearer and nearer to
// the bound 1 of RoundNear; one that stays at -7 passes half the bound of
// RoundDown.
func TestPromise3BoundsAreNeeded(t *testing.T) {
	for _, c := range []struct {
		f    impl.First
		y    int
		want *big.Rat
	}{
		{first(1, 1, impl.RoundNear, hold(12)), 1, big.NewRat(2047, 2048)},
		{first(7, 3, impl.RoundDown, hold(12)), -7, big.NewRat(46288254943, 8589934592)},
	} {
		run, ok := impl.RunFirst(c.f, c.y, repeat(0, 11))
		wantList(t, fmt.Sprint("run ", c.f), run, ok, repeat(c.y, 11))
		exact, ok := impl.ExactFirst(c.f, c.y, repeat(0, 11))
		if d := distance(c.f, run, exact); !ok || d.Cmp(c.want) != 0 {
			t.Error("distance:", c.f, d, c.want)
		}
	}
}

// Exact numbers for samples 1 from 0 come near to the gain: the n-th one times
// its denominator is its numerator times 2^(n Shift) less A^n.
func TestPromise3ExactNumbersComeNearTheGain(t *testing.T) {
	for _, f := range firstsOf(hold(8)) {
		top, bottom, ok := impl.GainOfFirst(f)
		if !ok {
			continue
		}
		exact, ok := impl.ExactFirst(f, 0, repeat(1, 3))
		if !ok {
			t.Fatal("no exact numbers", f)
		}
		power := 1
		for i, x := range exact {
			power *= f.A
			if x*bottom != top*(1<<((i+1)*f.Shift)-power) {
				t.Error("gain and exact numbers:", f, i, x, top, bottom)
			}
		}
	}
}

// Exact numbers add up as signals do.
func TestPromise3ExactNumbersAddUp(t *testing.T) {
	source := numberSource(24)
	for _, f := range firstsOf(hold(8)) {
		a, b := source.list(3, 100), source.list(3, 100)
		sum, ok := impl.AddSignals(a, b)
		one, ok1 := impl.ExactFirst(f, 5, a)
		two, ok2 := impl.ExactFirst(f, -9, b)
		if !ok || !ok1 || !ok2 {
			t.Fatal(f, a, b)
		}
		want := slices.Clone(one)
		for i, x := range two {
			want[i] += x
		}
		list, ok := impl.ExactFirst(f, -4, sum)
		wantList(t, fmt.Sprint("sum ", f), list, ok, want)
	}
}
