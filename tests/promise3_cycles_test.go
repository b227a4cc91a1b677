package tests

import (
	"fmt"
	"slices"
	"testing"

	"loop.example/g01198/impl"
)

// Promise 3: all numbers come to cycles.

var scanWords = []impl.Word{hold(2), wrap(2), hold(3), wrap(4), hold(5), wrap(7), hold(9), hold(impl.MaxScan), wrap(impl.MaxScan)}

var scanSamples = []int{0, 1, -3, 40, impl.MaxSample, -impl.MaxSample}

// nextOf is the step with a sample from each number of a word, by the
// definition alone: that from the least number is at the index 0.
func nextOf(t *testing.T, f impl.First, x int) []int {
	t.Helper()
	least, greatest := rangeOf(f.Word)
	next := make([]int, 0, greatest-least+1)
	for y := least; y <= greatest; y++ {
		_, n := stepped(t, f, y, x)
		next = append(next, n)
	}
	return next
}

// cyclesBy finds all cycles by the definition alone: the numbers that are left
// when, again and again, those go to which no step leads.
func cyclesBy(f impl.First, next []int) [][]int {
	least, greatest := rangeOf(f.Word)
	left := map[int]bool{}
	for y := least; y <= greatest; y++ {
		left[y] = true
	}
	for before := 0; before != len(left); {
		before = len(left)
		reached := map[int]bool{}
		for y := range left {
			reached[next[y-least]] = true
		}
		left = reached
	}
	var cycles [][]int
	for y := least; y <= greatest; y++ {
		var cycle []int
		for z := y; left[z]; z = next[z-least] {
			cycle = append(cycle, z)
			delete(left, z)
		}
		if cycle != nil {
			cycles = append(cycles, cycle)
		}
	}
	return cycles
}

func bandOf(cycles [][]int) int {
	band := 0
	for _, cycle := range cycles {
		for _, y := range cycle {
			band = max(band, y, -y)
		}
	}
	return band
}

func TestPromise3CyclesByHand(t *testing.T) {
	for _, c := range []struct {
		f    impl.First
		x    int
		want [][]int
	}{
		{first(1, 1, impl.RoundDown, hold(4)), 0, [][]int{{-1}, {0}}},
		{first(1, 1, impl.RoundNear, hold(4)), 0, [][]int{{0}, {1}}},
		{first(1, 1, impl.RoundZero, hold(4)), 0, [][]int{{0}}},
		{first(1, 1, impl.RoundDown, hold(4)), 1, [][]int{{1}, {2}}},
		{first(1, 1, impl.RoundDown, hold(4)), 100, [][]int{{7}}},
		{first(-1, 1, impl.RoundDown, hold(4)), 0, [][]int{{0}}},
		{first(-3, 2, impl.RoundNear, hold(4)), 0, [][]int{{-1, 1}, {0}}},
		{first(-1, 0, impl.RoundDown, hold(3)), 0, [][]int{{-3, 3}, {-2, 2}, {-1, 1}, {0}}},
		{first(-1, 0, impl.RoundDown, wrap(3)), 0, [][]int{{-4}, {-3, 3}, {-2, 2}, {-1, 1}, {0}}},
		{first(1, 0, impl.RoundDown, hold(2)), 0, [][]int{{-2}, {-1}, {0}, {1}}},
		{first(1, 0, impl.RoundDown, hold(2)), 1, [][]int{{1}}},
		{first(1, 0, impl.RoundDown, wrap(2)), 1, [][]int{{-2, -1, 0, 1}}},
		{first(1, 0, impl.RoundDown, wrap(2)), 2, [][]int{{-2, 0}, {-1, 1}}},
		{first(1, 0, impl.RoundDown, wrap(2)), -1, [][]int{{-2, 1, 0, -1}}},
		{first(3, 0, impl.RoundDown, wrap(4)), 1, [][]int{{-8, -7, -4, 5, 0, 1, 4, -3}, {-6, -1, -2, -5, 2, 7, 6, 3}}},
		{first(0, 10, impl.RoundNear, wrap(4)), 9, [][]int{{-7}}},
		{first(2, 0, impl.RoundDown, hold(2)), 0, [][]int{{-2}, {0}, {1}}},
	} {
		lists, ok := impl.CyclesOfFirst(c.f, c.x)
		wantLists(t, fmt.Sprint("cycles ", c.f, c.x), lists, ok, c.want)
	}
}

func TestPromise3Cycles(t *testing.T) {
	for _, w := range scanWords {
		for i, f := range firstsOf(w) {
			for _, x := range []int{0, scanSamples[1+i%(len(scanSamples)-1)]} {
				what := fmt.Sprint(f, x)
				want := cyclesBy(f, nextOf(t, f, x))
				lists, ok := impl.CyclesOfFirst(f, x)
				wantLists(t, "cycles "+what, lists, ok, want)
				rests := []int{}
				for _, cycle := range want {
					if len(cycle) == 1 {
						rests = append(rests, cycle[0])
					}
				}
				list, ok := impl.RestsOf(f, x)
				wantList(t, "rests "+what, list, ok, rests)
				if x == 0 {
					n, ok := impl.DeadBand(f)
					wantNumber(t, "band "+what, n, ok, bandOf(want))
				}
			}
		}
	}
}

func TestPromise3RestsByHand(t *testing.T) {
	for _, c := range []struct {
		f    impl.First
		x    int
		want []int
	}{
		{first(1, 1, impl.RoundDown, hold(4)), 0, []int{-1, 0}},
		{first(1, 1, impl.RoundDown, hold(4)), 1, []int{1, 2}},
		{first(1, 1, impl.RoundNear, hold(4)), 0, []int{0, 1}},
		{first(1, 0, impl.RoundDown, hold(3)), 0, []int{-4, -3, -2, -1, 0, 1, 2, 3}},
		{first(1, 0, impl.RoundDown, wrap(3)), 1, nil},
		{first(1, 0, impl.RoundDown, wrap(3)), 8, []int{-4, -3, -2, -1, 0, 1, 2, 3}},
		{first(1, 0, impl.RoundDown, hold(3)), 1, []int{3}},
		{first(-1, 0, impl.RoundDown, hold(3)), 1, nil},
		{first(-1, 0, impl.RoundDown, hold(3)), -2, []int{-1}},
		{first(3, 2, impl.RoundDown, hold(4)), 0, []int{-3, -2, -1, 0}},
		{first(3, 2, impl.RoundNear, hold(4)), 0, []int{-1, 0, 1, 2}},
		{first(3, 2, impl.RoundZero, hold(4)), 0, []int{0}},
	} {
		list, ok := impl.RestsOf(c.f, c.x)
		wantList(t, fmt.Sprint("rests ", c), list, ok, c.want)
	}
}

func TestPromise3DeadBandByHand(t *testing.T) {
	for _, c := range []struct {
		a, shift         int
		w                impl.Word
		down, near, zero int
	}{
		{1, 1, hold(4), 1, 1, 0},
		{3, 2, hold(4), 3, 2, 0},
		{-3, 2, hold(4), 0, 1, 0},
		{0, 0, hold(2), 0, 0, 0},
		{1, 0, hold(4), 8, 8, 8},
		{-1, 0, hold(4), 7, 7, 7},
		{-1, 0, wrap(4), 8, 8, 8},
		{1024, 10, hold(10), 512, 512, 512},
		{-1024, 10, hold(10), 511, 511, 511},
		{1023, 10, hold(10), 512, 511, 0},
	} {
		for mode, want := range []int{c.down, c.near, c.zero} {
			n, ok := impl.DeadBand(first(c.a, c.shift, mode, c.w))
			wantNumber(t, fmt.Sprint("band ", c, mode), n, ok, want)
		}
	}
}

func TestPromise3FirstPeriodByHand(t *testing.T) {
	three := first(3, 0, impl.RoundDown, wrap(4))
	count, countHeld := first(1, 0, impl.RoundDown, wrap(16)), first(1024, 10, impl.RoundNear, hold(16))
	for _, c := range []struct {
		f           impl.First
		y, x        int
		begin, more int
	}{
		{first(1, 1, impl.RoundDown, hold(4)), 7, 0, 3, 1},
		{first(1, 1, impl.RoundDown, hold(4)), -8, 0, 3, 1},
		{first(1, 1, impl.RoundDown, hold(4)), 0, 0, 0, 1},
		{first(1, 1, impl.RoundDown, hold(4)), -1, 0, 0, 1},
		{first(1, 1, impl.RoundNear, hold(4)), -8, 0, 4, 1},
		{first(-1, 0, impl.RoundDown, hold(4)), -8, 0, 1, 2},
		{first(-1, 0, impl.RoundDown, wrap(4)), -8, 0, 0, 1},
		{first(-1, 0, impl.RoundDown, hold(4)), 5, 0, 0, 2},
		{first(-3, 2, impl.RoundNear, hold(4)), 3, 0, 3, 2}, // 3, -2, 2, -1, 1, -1
		{three, 5, 1, 0, 8},
		{three, 6, 1, 0, 8},
		{first(1, 0, impl.RoundDown, wrap(2)), 1, 2, 0, 2},
		{count, 0, 1, 0, 65536},
		{count, -32768, -1, 0, 65536},
		{count, 5, 2, 0, 32768},
		{count, 5, 0, 0, 1},
		{countHeld, -32768, 1, 65535, 1},
		{countHeld, 32767, -1, 65535, 1},
		{countHeld, 0, impl.MaxSample, 1, 1},
		{countHeld, 32767, impl.MaxSample, 0, 1},
		{first(0, 10, impl.RoundDown, hold(16)), 4, 3, 1, 1},
	} {
		a, b, ok := impl.FirstPeriod(c.f, c.y, c.x)
		wantTwo(t, fmt.Sprint("period ", c), a, b, ok, c.begin, c.more)
	}
}

// periodBy finds behind how many steps a number first comes that has been, and
// behind how many it was first there.
func periodBy(f impl.First, next []int, y int) (int, int) {
	least, _ := rangeOf(f.Word)
	been := map[int]int{}
	for n := 0; ; n++ {
		if begin, ok := been[y]; ok {
			return begin, n - begin
		}
		been[y] = n
		y = next[y-least]
	}
}

func TestPromise3FirstPeriods(t *testing.T) {
	for _, w := range scanWords {
		least, greatest := rangeOf(w)
		for i, f := range firstsOf(w) {
			x := scanSamples[i%len(scanSamples)]
			next := nextOf(t, f, x)
			for y := least; y <= greatest; y += 1 + w.Bits/5*7 {
				begin, more := periodBy(f, next, y)
				a, b, ok := impl.FirstPeriod(f, y, x)
				wantTwo(t, fmt.Sprint("period ", f, y, x), a, b, ok, begin, more)
			}
		}
	}
	for _, w := range goodWords() {
		f := first(-1021, 10, impl.RoundDown, w)
		next := nextOf(t, f, 1)
		for _, y := range someNumbers(w) {
			begin, more := periodBy(f, next, y)
			a, b, ok := impl.FirstPeriod(f, y, 1)
			wantTwo(t, fmt.Sprint("period ", f, y, 1), a, b, ok, begin, more)
		}
	}
}

// All numbers come to cycles: each number is, behind the steps of FirstPeriod
// and no sooner, on one of the cycles, and this has as many numbers.
func TestPromise3AllNumbersComeToCycles(t *testing.T) {
	for _, f := range []impl.First{first(3, 0, impl.RoundDown, wrap(4)), first(-3, 2, impl.RoundNear, hold(5)), first(7, 2, impl.RoundZero, wrap(8)), first(-31, 5, impl.RoundDown, hold(8)), first(1024, 0, impl.RoundDown, wrap(8))} {
		for _, x := range []int{0, 1, -6, 1000} {
			cycles, ok := impl.CyclesOfFirst(f, x)
			if !ok {
				t.Fatal("no cycles", f, x)
			}
			lengths := map[int]int{}
			for _, cycle := range cycles {
				for _, y := range cycle {
					lengths[y] = len(cycle)
				}
			}
			least, greatest := rangeOf(f.Word)
			for y := least; y <= greatest; y++ {
				checkComesToCycle(t, f, y, x, lengths)
			}
		}
	}
}

func checkComesToCycle(t *testing.T, f impl.First, y int, x int, lengths map[int]int) {
	t.Helper()
	begin, more, ok := impl.FirstPeriod(f, y, x)
	z := y
	for n := range begin {
		if lengths[z] != 0 {
			t.Error("on a cycle too soon:", f, y, x, n)
		}
		z, _ = impl.FirstStep(f, z, x)
	}
	if lengths[z] != more || !ok {
		t.Error("not on such a cycle:", f, y, x, begin, more, lengths[z])
	}
}

func TestPromise3NumbersBeforeByHand(t *testing.T) {
	held, wrapped := first(1, 1, impl.RoundDown, hold(4)), first(1, 1, impl.RoundDown, wrap(4))
	for _, c := range []struct {
		f    impl.First
		y, x int
		want []int
	}{
		{held, 3, 0, []int{6, 7}},
		{held, -1, 0, []int{-2, -1}},
		{held, 4, 0, nil},
		{held, 7, 5, []int{4, 5, 6, 7}},
		{wrapped, 7, 5, []int{4, 5}},
		{wrapped, -8, 5, []int{6, 7}},
		{wrapped, -7, 5, nil},
		{held, -8, -impl.MaxSample, []int{-8, -7, -6, -5, -4, -3, -2, -1, 0, 1, 2, 3, 4, 5, 6, 7}},
		{first(1, 1, impl.RoundNear, hold(4)), 0, 0, []int{-1, 0}},
		{first(1, 1, impl.RoundZero, hold(4)), 0, 0, []int{-1, 0, 1}},
		{first(2, 0, impl.RoundDown, wrap(3)), 2, 0, []int{-3, 1}},
		{first(-1, 0, impl.RoundDown, hold(3)), 3, 0, []int{-4, -3}},
		{first(0, 0, impl.RoundDown, hold(2)), 1, 1, []int{-2, -1, 0, 1}},
		{first(0, 0, impl.RoundDown, hold(2)), 0, 1, nil},
	} {
		list, ok := impl.NumbersBefore(c.f, c.y, c.x)
		wantList(t, fmt.Sprint("before ", c), list, ok, c.want)
	}
}

func TestPromise3NumbersBefore(t *testing.T) {
	for _, w := range scanWords {
		least, greatest := rangeOf(w)
		for i, f := range firstsOf(w) {
			x := scanSamples[i%len(scanSamples)]
			next := nextOf(t, f, x)
			for y := least; y <= greatest; y += 1 + w.Bits/5*13 {
				var want []int
				for i, n := range next {
					if n == y {
						want = append(want, least+i)
					}
				}
				list, ok := impl.NumbersBefore(f, y, x)
				wantList(t, fmt.Sprint("before ", f, y, x), list, ok, want)
			}
		}
	}
}

// Where all numbers are looked at, MaxScan bits are just not too many; a
// period is found in any word.
func TestPromise3ScansNeedFewBits(t *testing.T) {
	for _, w := range goodWords() {
		f := first(1, 1, impl.RoundDown, w)
		few := w.Bits <= impl.MaxScan
		what := fmt.Sprint(w)
		list, ok := impl.RestsOf(f, 0)
		wantListIf(t, "rests "+what, list, ok, []int{-1, 0}, few)
		list, ok = impl.NumbersBefore(f, -1, 0)
		wantListIf(t, "before "+what, list, ok, []int{-2, -1}, few)
		lists, ok := impl.CyclesOfFirst(f, 0)
		band, ok1 := impl.DeadBand(f)
		if few {
			wantLists(t, "cycles "+what, lists, ok, [][]int{{-1}, {0}})
			wantNumber(t, "band "+what, band, ok1, 1)
		} else {
			wantNoLists(t, "cycles "+what, lists, ok)
			wantNoNumber(t, "band "+what, band, ok1)
		}
		a, b, ok := impl.FirstPeriod(f, -1<<(w.Bits-1), 0)
		wantTwo(t, "period "+what, a, b, ok, w.Bits-1, 1)
	}
}

func TestPromise3ScansFail(t *testing.T) {
	for _, f := range badFirsts() {
		what := fmt.Sprint(f)
		n, ok := impl.DeadBand(f)
		wantNoNumber(t, "band "+what, n, ok)
		for _, x := range []int{0, 1} {
			checkNoScan(t, f, x)
		}
	}
	for _, w := range scanWords {
		for _, x := range badSamples {
			checkNoScan(t, first(1, 1, impl.RoundDown, w), x)
			checkNoScan(t, first(0, 0, impl.RoundNear, w), x)
		}
	}
}

func checkNoScan(t *testing.T, f impl.First, x int) {
	t.Helper()
	list, ok := impl.RestsOf(f, x)
	wantNoList(t, fmt.Sprint("rests ", f, x), list, ok)
	lists, ok := impl.CyclesOfFirst(f, x)
	wantNoLists(t, fmt.Sprint("cycles ", f, x), lists, ok)
}

// Cycles begin with their least numbers, and these increase.
func TestPromise3CyclesAreInOrder(t *testing.T) {
	cycles, ok := impl.CyclesOfFirst(first(5, 0, impl.RoundDown, wrap(impl.MaxScan)), 4)
	if !ok || len(cycles) < 2 {
		t.Fatal("too few cycles", cycles)
	}
	for i, cycle := range cycles {
		if cycle[0] != slices.Min(cycle) || i > 0 && cycles[i-1][0] >= cycle[0] {
			t.Error("not in order:", i, cycle)
		}
	}
}
