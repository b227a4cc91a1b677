package tests

import (
	"fmt"
	"math"
	"math/big"
	"math/cmplx"
	"testing"

	"loop.example/g01198/impl"
)

// Promise 4: the triangle, the roots, exact numbers, and filters of the second
// order that are two of the first.

func TestPromise4IsInTriangleByHand(t *testing.T) {
	for _, c := range []struct {
		a, b, shift int
		want        bool
	}{
		{0, -2, 1, false},
		{0, -1, 1, true},
		{0, 2, 1, false},
		{0, 1, 1, true},
		{0, 0, 0, true},
		{1, 0, 0, false},
		{-1, 0, 0, false},
		{0, 1, 0, false},
		{0, -1, 0, false},
		{1, 1, 1, false}, // A of 2 less 1
		{-1, 1, 1, false},
		{2, -1, 1, true}, // A of 2 and 1, less 1
		{-2, -1, 1, true},
		{3, -1, 1, false},
		{-3, -1, 1, false},
		{4, -1, 2, true},
		{-4, -1, 2, true},
		{5, -1, 2, false},
		{2, 1, 2, true},
		{3, 1, 2, false},
		{-3, 1, 2, false},
		{1024, -1, 10, true},
		{-1024, -1, 10, true},
		{1024, 0, 10, false},
		{1023, 0, 10, true},
		{1023, -1024, 10, false},
		{0, 1024, 10, false},
		{0, 1023, 10, true},
		{1, 1023, 10, false},
		{-1, 1023, 10, false},
		{0, -1023, 10, true},
		{1024, -1023, 9, false},
		{1022, -511, 9, true},
		{-1022, -511, 9, true},
		{1023, -511, 9, false},
		{-1023, -511, 9, false},
	} {
		for _, mode := range modes {
			for _, w := range []impl.Word{hold(2), wrap(4), hold(16)} {
				f := second(c.a, c.b, c.shift, mode, w)
				is, ok := impl.IsInTriangle(f)
				wantFlag(t, fmt.Sprint("triangle ", f), is, ok, c.want)
			}
		}
	}
}

// A filter is in the triangle exactly if its roots are less than 1 in size:
// those of r r = a r + b.
func TestPromise4RootsInTriangle(t *testing.T) {
	for shift := 0; shift <= 10; shift++ {
		whole := 1 << shift
		for b := -1024; b <= 1024; b++ {
			for _, a := range []int{-1024, b - whole, b - whole + 1, b - whole - 1, -whole, 0, 1, whole / 3, whole - b - 1, whole - b, whole - b + 1, 1024} {
				f := second(a, b, shift, impl.RoundNear, hold(5))
				is, ok := impl.IsInTriangle(f)
				if a < -1024 || a > 1024 {
					wantNoFlag(t, fmt.Sprint("triangle ", f), is, ok)
					continue
				}
				half, part := complex(float64(a)/float64(2*whole), 0), complex(float64(b)/float64(whole), 0)
				root := cmplx.Sqrt(half*half + part)
				size := math.Max(cmplx.Abs(half+root), cmplx.Abs(half-root))
				wantFlag(t, fmt.Sprint("triangle ", f), is, ok, size < 1-1e-9)
			}
		}
	}
}

func TestPromise4RootsByHand(t *testing.T) {
	for _, c := range []struct {
		a, b, shift int
		want        string
	}{
		{0, -2, 1, "turn"},
		{0, 0, 0, "one"},
		{0, 0, 10, "one"},
		{1, 0, 3, "two"},
		{-1, 0, 3, "two"},
		{0, 1, 0, "two"},
		{0, -1, 10, "turn"},
		{2, -1, 0, "one"},
		{-2, -1, 0, "one"},
		{1, -1, 0, "turn"},
		{3, -1, 0, "two"},
		{-3, -1, 0, "two"},
		{4, -1, 2, "one"},
		{4, -2, 1, "one"},
		{4, -3, 1, "turn"},
		{5, -3, 1, "two"},
		{-4, 1, 2, "two"},
		{1024, -256, 10, "one"},
		{-1024, -256, 10, "one"},
		{1024, -257, 10, "turn"},
		{1024, -255, 10, "two"},
		{1023, -256, 10, "turn"},
		{-1023, -256, 10, "turn"},
		{1024, -1024, 8, "one"},
		{1024, -1024, 7, "two"},
		{1024, -1024, 9, "turn"},
		{-1024, 1024, 10, "two"},
		{0, -1024, 10, "turn"},
	} {
		for _, mode := range modes {
			for _, w := range []impl.Word{hold(2), wrap(4), hold(16)} {
				f := second(c.a, c.b, c.shift, mode, w)
				s, ok := impl.RootsOf(f)
				if s != c.want || !ok {
					t.Errorf("roots %v: got %q, %v, want %q", f, s, ok, c.want)
				}
			}
		}
	}
}

func TestPromise4Roots(t *testing.T) {
	names := []string{"turn", "one", "two"}
	for _, f := range secondsOf(wrap(7)) {
		sum := big.NewInt(int64(f.B) << (2 + f.Shift))
		sum.Add(sum, big.NewInt(int64(f.A)*int64(f.A)))
		s, ok := impl.RootsOf(f)
		if want := names[1+sum.Sign()]; s != want || !ok {
			t.Errorf("roots %v: got %q, %v, want %q", f, s, ok, want)
		}
	}
}

func TestPromise4TriangleAndRootsFail(t *testing.T) {
	for _, f := range badSeconds() {
		is, ok := impl.IsInTriangle(f)
		wantNoFlag(t, fmt.Sprint("triangle ", f), is, ok)
		if s, ok := impl.RootsOf(f); s != "" || ok {
			t.Errorf("roots %v: got %q, %v, want failure", f, s, ok)
		}
	}
}

func TestPromise4ExactByHand(t *testing.T) {
	for _, c := range []struct {
		a, b, shift, y, z int
		s, want           []int
	}{
		{0, -2, 1, 3, 1, repeat(0, 4), []int{-2, -12, 8, 48}}, // -1, -3, 1, 3
		{1, 1, 1, 3, 2, []int{0, 1}, []int{5, 15}},            // 5 / 2, 15 / 4
		{1, 1, 1, 3, 2, []int{1, 0, 0}, []int{7, 13, 27}},     // 7 / 2, 13 / 4, 27 / 8
		{1, 1, 0, 1, 0, repeat(0, 6), []int{1, 2, 3, 5, 8, 13}},
		{4, -1, 2, 0, 0, []int{1, 0, 0}, []int{4, 16, 48}}, // 1, 1, 3 / 4
		{0, 1, 2, 1, 3, repeat(0, 4), []int{3, 4, 12, 16}}, // 3 / 4, 1 / 4, 3 / 16, 1 / 16
		{-3, 2, 2, -8, 7, []int{5}, []int{58}},
		{1024, 1024, 10, 2, 1, []int{-3}, []int{0}},
		{0, 0, 10, 7, -8, []int{0, 1}, []int{0, 1048576}},
		{0, 0, 3, -8, 7, []int{1, -1, 2}, []int{8, -64, 1024}},
		{5, -7, 4, 7, -8, nil, nil},
	} {
		for _, w := range []impl.Word{hold(4), wrap(4), hold(16)} {
			for _, mode := range modes {
				list, ok := impl.ExactSecond(second(c.a, c.b, c.shift, mode, w), c.y, c.z, c.s)
				wantList(t, fmt.Sprint("exact ", c, w), list, ok, c.want)
			}
		}
	}
}

// Exact numbers that just are numbers of chapter 1, and that just are not.
func TestPromise4ExactAtTheLimits(t *testing.T) {
	last, before := second(1000, 0, 0, impl.RoundDown, hold(16)), second(0, 1000, 0, impl.RoundDown, hold(16))
	slow, held := second(0, 1024, 10, impl.RoundDown, hold(16)), second(0, 0, 10, impl.RoundDown, hold(16))
	for _, c := range []struct {
		f    impl.Second
		y, z int
		s    []int
		want []int
	}{
		{last, 1000, 5, []int{0, 0, 0}, []int{1000000, 1000000000, impl.MaxNumber}},
		{last, 1000, 5, []int{0, 0, 1}, nil},
		{last, 1000, 5, []int{0, 0, -1}, []int{1000000, 1000000000, impl.MaxNumber - 1}},
		{last, -1000, 5, []int{0, 0, 0}, []int{-1000000, -1000000000, -impl.MaxNumber}},
		{last, -1000, 5, []int{0, 0, -1}, nil},
		{last, 1000, 5, []int{0, 0, 0, 0}, nil},
		{before, 1, 1000, []int{0, 0, 0, 0, 0}, []int{1000000, 1000, 1000000000, 1000000, impl.MaxNumber}},
		{before, 1, 1000, []int{0, 0, 0, 0, 1}, nil},
		{before, 1, 1000, []int{0, 0, 0, 0, -1}, []int{1000000, 1000, 1000000000, 1000000, impl.MaxNumber - 1}},
		{before, 1, -1000, []int{0, 0, 0, 0, 0}, []int{-1000000, 1000, -1000000000, 1000000, -impl.MaxNumber}},
		{before, 1, -1000, []int{0, 0, 0, 0, -1}, nil},
		{before, 1, 1000, []int{0, 0, 0, 0, 0, 0, 0}, nil},
		{slow, 0, 931, []int{0, 0, 0}, []int{953344, 0, 999653638144}},
		{slow, 0, -931, []int{0, 0, 0}, []int{-953344, 0, -999653638144}},
		{slow, 0, 932, []int{0, 0}, []int{954368, 0}},
		{slow, 0, 932, []int{0, 0, 0}, nil},
		{slow, 0, -932, []int{0, 0, 0}, nil},
		{slow, 32767, 32767, []int{impl.MaxSample}, []int{1024 * 132767}},
		{slow, 32767, 32767, []int{impl.MaxSample, 0}, []int{1024 * 132767, 1048576 * 32767}},
		{held, 9, 9, []int{100000, 0, 931}, []int{102400000, 0, 999653638144}},
		{held, 9, 9, []int{0, 0, 932}, nil},
		{held, 9, 9, []int{0, 0, -932}, nil},
		// One number is too great, and those behind it would not be.
		{second(0, 0, 5, impl.RoundDown, hold(16)), 0, 0, []int{0, 0, 0, 0, 29802, 0}, []int{0, 0, 0, 0, 999989182464, 0}},
		{second(0, 0, 5, impl.RoundDown, hold(16)), 0, 0, []int{0, 0, 0, 0, 29803, 0}, nil},
		// The greatest sums that there are.
		{second(1024, 1024, 10, impl.RoundDown, hold(16)), 32767, 32767, repeat(impl.MaxSample, 3), nil},
		{second(-1024, 1024, 10, impl.RoundDown, wrap(16)), -32768, 32767, []int{-impl.MaxSample, impl.MaxSample, -impl.MaxSample}, nil},
	} {
		list, ok := impl.ExactSecond(c.f, c.y, c.z, c.s)
		wantListIf(t, fmt.Sprint("exact ", c), list, ok, c.want, c.want != nil)
	}
}

// 2^39 is a number of chapter 1, and 2^40 is none, whatever the exact numbers are.
func TestPromise4ExactNeedsPowers(t *testing.T) {
	for shift := 0; shift <= 10; shift++ {
		for n := 0; n <= impl.MaxSignal; n++ {
			for _, a := range []int{0, 1, -1} {
				list, ok := impl.ExactSecond(second(a, -a, shift, impl.RoundNear, hold(4)), 0, 0, repeat(0, n))
				wantListIf(t, fmt.Sprint("exact ", a, shift, n), list, ok, repeat(0, n), n*shift <= 39)
			}
		}
	}
}

// exactPairBy makes exact numbers by the definition alone: the run without
// rounding and fitting, in ratios, and then times 2^(n shift).
func exactPairBy(f impl.Second, y int, z int, s []int) ([]int, bool) {
	whole := int64(1) << f.Shift
	last, before, scale := big.NewRat(int64(y), 1), big.NewRat(int64(z), 1), big.NewRat(1, 1)
	limit := big.NewRat(impl.MaxNumber, 1)
	exact := make([]int, len(s))
	for i, x := range s {
		made := new(big.Rat).Mul(last, big.NewRat(int64(f.A), whole))
		made.Add(made, before.Mul(before, big.NewRat(int64(f.B), whole)))
		made.Add(made, big.NewRat(int64(x), 1))
		last, before = made, last
		scale.Mul(scale, big.NewRat(whole, 1))
		number := new(big.Rat).Mul(made, scale)
		if scale.Cmp(limit) > 0 || new(big.Rat).Abs(number).Cmp(limit) > 0 {
			return nil, false
		}
		exact[i] = int(number.Num().Int64())
	}
	return exact, true
}

func TestPromise4Exact(t *testing.T) {
	source := numberSource(43)
	found := map[bool]int{}
	for _, w := range []impl.Word{hold(2), wrap(6), hold(16)} {
		for i, f := range secondsOf(w) {
			signals := [][]int{{impl.MaxSample, -impl.MaxSample, impl.MaxSample}, {-impl.MaxSample}, {1, 0, 0, 0, 0, 0, 0, 0, 1}, nil}
			for range 3 {
				signals = append(signals, source.list(4+source.next(4), 1000), source.list(30+source.next(30), 9))
			}
			for _, p := range somePairs(w, i) {
				for _, s := range signals {
					want, is := exactPairBy(f, p[0], p[1], s)
					list, ok := impl.ExactSecond(f, p[0], p[1], s)
					wantListIf(t, fmt.Sprint("exact ", f, p, s), list, ok, want, is)
					found[is]++
				}
			}
		}
	}
	if found[true] < 1000 || found[false] < 1000 {
		t.Error("too few of one kind:", found)
	}
}

// Where nothing is fitted and there is no shift, exact numbers are those of the run.
func TestPromise4ExactNumbersOfRuns(t *testing.T) {
	for _, ab := range [][2]int{{1, -1}, {0, -1}, {0, 1}, {-1, -1}, {1, 0}, {2, -1}} {
		for _, mode := range modes {
			f := second(ab[0], ab[1], 0, mode, hold(16))
			for _, s := range smallSignals {
				fits, ok := impl.CountPairFits(f, 4, -9, s)
				wantNumber(t, fmt.Sprint("fits ", f, s), fits, ok, 0)
				want, ok := impl.RunSecond(f, 4, -9, s)
				list, ok1 := impl.ExactSecond(f, 4, -9, s)
				wantList(t, fmt.Sprint("exact ", f, s), list, ok && ok1, want)
			}
		}
	}
}

func TestPromise4SecondOfFirstsByHand(t *testing.T) {
	for _, c := range []struct {
		fA, fShift, gA, gShift int
		a, b, shift            int
		is                     bool
	}{
		{1, 1, 1, 1, 4, -1, 2, true},
		{1, 1, -1, 1, 0, 1, 2, true},
		{3, 2, 1, 1, 10, -3, 3, true},
		{1, 1, 3, 2, 10, -3, 3, true},
		{0, 0, 0, 0, 0, 0, 0, true},
		{0, 5, 0, 5, 0, 0, 10, true},
		{0, 10, 0, 0, 0, 0, 10, true},
		{0, 5, 0, 6, 0, 0, 0, false},
		{0, 10, 0, 1, 0, 0, 0, false},
		{0, 1, 0, 10, 0, 0, 0, false},
		{0, 10, 0, 10, 0, 0, 0, false},
		{1024, 0, 0, 0, 1024, 0, 0, true},
		{1024, 0, 1, 0, 0, 0, 0, false}, // A = 1025
		{1023, 0, 1, 0, 1024, -1023, 0, true},
		{-1024, 0, -1, 0, 0, 0, 0, false},
		{-1023, 0, -1, 0, -1024, -1023, 0, true},
		{1024, 0, -1, 0, 1023, 1024, 0, true},
		{-1024, 0, 1, 0, -1023, 1024, 0, true},
		{512, 1, 0, 1, 1024, 0, 2, true},
		{513, 1, 0, 1, 0, 0, 0, false}, // A = 1026
		{-512, 1, 0, 1, -1024, 0, 2, true},
		{-513, 1, 0, 1, 0, 0, 0, false},
		{1, 0, 0, 10, 1024, 0, 10, true},
		{0, 0, 1, 10, 1, 0, 10, true},
		{2, 0, 0, 10, 0, 0, 0, false},
		{32, 0, 32, 0, 64, -1024, 0, true},
		{32, 0, -32, 0, 0, 1024, 0, true},
		{25, 0, 41, 0, 0, 0, 0, false}, // B = -1025
		{25, 0, -41, 0, 0, 0, 0, false},
		{-31, 0, 33, 0, 2, 1023, 0, true},
		{1024, 0, -1024, 0, 0, 0, 0, false}, // A = 0, and B is far too great
	} {
		for i, mode := range modes {
			f := first(c.fA, c.fShift, mode, wrap(5+i))
			g := first(c.gA, c.gShift, modes[(i+1)%3], hold(16-i))
			want := second(c.a, c.b, c.shift, mode, wrap(5+i))
			if !c.is {
				want = impl.Second{}
			}
			both, ok := impl.SecondOfFirsts(f, g)
			if both != want || ok != c.is {
				t.Errorf("both of %v and %v: got %v, %v, want %v", f, g, both, ok, want)
			}
		}
	}
}

func TestPromise4SecondOfFirstsFails(t *testing.T) {
	good := first(1, 1, impl.RoundDown, hold(4))
	for _, f := range badFirsts() {
		for _, c := range [][2]impl.First{{f, good}, {good, f}, {f, f}} {
			if both, ok := impl.SecondOfFirsts(c[0], c[1]); both != (impl.Second{}) || ok {
				t.Error("both of no filters:", c, both, ok)
			}
		}
	}
}

// One filter of the first order behind another one, without rounding and
// fitting, makes the exact numbers of their filter of the second order; there
// is one just if its numbers are small enough.
func TestPromise4SecondOfFirsts(t *testing.T) {
	source := numberSource(44)
	found := 0
	for range 20000 {
		f := first(source.next(40), 2+source.next(2), impl.RoundDown, hold(16))
		g := first(source.next(40), 2+source.next(2), impl.RoundNear, hold(5))
		both, ok := impl.SecondOfFirsts(f, g)
		if a, b := f.A<<g.Shift+g.A<<f.Shift, f.A*g.A; ok != (max(a, -a, b, -b) <= 1024) {
			t.Error("both:", f, g, both, ok)
		}
		if !ok {
			continue
		}
		found++
		s := source.list(4, 30)
		list, ok := impl.ExactSecond(both, 0, 0, s)
		want, is := exactBehind(f, g, s)
		wantListIf(t, fmt.Sprint("exact ", f, g, s), list, ok, want, is)
	}
	if found < 1000 {
		t.Error("too few filters:", found)
	}
}

// exactBehind makes the exact numbers of g behind f, both from 0.
func exactBehind(f impl.First, g impl.First, s []int) ([]int, bool) {
	partF, partG := big.NewRat(int64(f.A), 1<<f.Shift), big.NewRat(int64(g.A), 1<<g.Shift)
	between, out, scale := new(big.Rat), new(big.Rat), big.NewRat(1, 1)
	limit := big.NewRat(impl.MaxNumber, 1)
	exact := make([]int, len(s))
	for i, x := range s {
		between.Mul(between, partF).Add(between, big.NewRat(int64(x), 1))
		out.Mul(out, partG).Add(out, between)
		scale.Mul(scale, big.NewRat(1<<(f.Shift+g.Shift), 1))
		number := new(big.Rat).Mul(out, scale)
		if scale.Cmp(limit) > 0 || new(big.Rat).Abs(number).Cmp(limit) > 0 {
			return nil, false
		}
		exact[i] = int(number.Num().Int64())
	}
	return exact, true
}
