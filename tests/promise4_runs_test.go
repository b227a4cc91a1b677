package tests

import (
	"fmt"
	"slices"
	"testing"

	"loop.example/g01198/impl"
)

// Promise 4: steps and runs are what the document makes of them.

func TestPromise4IsSecond(t *testing.T) {
	for _, w := range goodWords() {
		for _, f := range secondsOf(w) {
			if !impl.IsSecond(f) {
				t.Error("no filter:", f)
			}
		}
	}
	for _, f := range badSeconds() {
		if impl.IsSecond(f) {
			t.Error("a filter:", f)
		}
	}
	if impl.IsSecond(impl.Second{}) {
		t.Error("a filter without a word")
	}
}

func TestPromise4SecondStepByHand(t *testing.T) {
	for _, c := range []struct {
		a, b, shift      int
		w                impl.Word
		y, z, x          int
		down, near, zero int
	}{
		{0, -2, 1, wrap(4), 3, 1, 0, -1, -1, -1},
		{1, 0, 0, hold(4), 3, 5, 0, 3, 3, 3},
		{0, 1, 0, hold(4), 3, 5, 0, 5, 5, 5},
		{1, 1, 1, hold(4), 3, 2, 0, 2, 3, 2}, // 5 / 2
		{1, 1, 1, hold(4), -3, -2, 0, -3, -2, -2},
		{1, -1, 1, hold(4), 1, 2, 0, -1, 0, 0},
		{3, -2, 2, hold(4), 1, -1, 0, 1, 1, 1}, // 5 / 4
		{3, -2, 2, hold(4), -1, 1, 0, -2, -1, -1},
		{3, -2, 2, hold(4), 3, 1, 0, 1, 2, 1}, // 7 / 4
		{3, -2, 2, hold(4), -3, -1, 0, -2, -2, -1},
		{3, -2, 2, hold(4), 2, 0, 0, 1, 2, 1}, // 6 / 4, a half
		{3, -2, 2, hold(4), -2, 0, 0, -2, -1, -1},
		{3, -2, 2, hold(4), 0, 3, 0, -2, -1, -1},
		{3, -2, 2, hold(4), 0, -3, 0, 1, 2, 1},
		// Both parts are shifted together: 4 / 2, and not 3 / 2 and 1 / 2.
		{1, 1, 1, hold(4), 3, 1, 0, 2, 2, 2},
		{1, 1, 1, hold(4), -3, -1, 0, -2, -2, -2},
		{1, 1, 1, hold(4), 3, -3, 0, 0, 0, 0},
		// A sample is added behind the shift: 5 / 2 and 1, not 6 / 2.
		{1, 1, 1, hold(4), 3, 2, 1, 3, 4, 3},
		{1, 1, 1, hold(4), -3, -2, 1, -2, -1, -1},
		// Fitted just once, at the end.
		{1, 1, 0, hold(4), 7, 7, 0, 7, 7, 7},
		{1, 1, 0, wrap(4), 7, 7, 0, -2, -2, -2},
		{1, 1, 0, hold(4), 7, 7, -8, 6, 6, 6},
		{1, 1, 0, hold(4), -8, -8, 10, -6, -6, -6},
		{1, 1, 0, hold(4), -8, -8, 0, -8, -8, -8},
		{1, 1, 0, wrap(4), -8, -8, 0, 0, 0, 0},
		{2, -2, 0, hold(4), 7, 5, 0, 4, 4, 4},
		{2, -1, 0, hold(4), 7, 5, 0, 7, 7, 7},
		{2, -1, 0, wrap(4), 7, 5, 0, -7, -7, -7},
		{1024, 1024, 0, hold(16), 32767, 32767, impl.MaxSample, 32767, 32767, 32767},
		{1024, 1024, 0, wrap(16), 32767, 32767, 0, -2048, -2048, -2048},
		{-1024, -1024, 10, wrap(16), -32768, -32768, 0, 0, 0, 0},
		{-1024, -1024, 10, hold(16), -32768, -32768, 0, 32767, 32767, 32767},
		{1024, -1024, 10, wrap(16), 32767, -32768, 0, -1, -1, -1},
		{1024, -1024, 10, hold(16), 32767, 32766, 0, 1, 1, 1},
		{0, 0, 10, wrap(16), 5, 5, impl.MaxSample, -31072, -31072, -31072},
		{0, 0, 10, wrap(16), 5, 5, -impl.MaxSample, 31072, 31072, 31072},
		{0, 0, 0, hold(2), 1, -2, -impl.MaxSample, -2, -2, -2},
		{1, 0, 10, hold(16), 512, 0, 0, 0, 1, 0},
		{0, 1, 10, hold(16), 0, -512, 0, -1, 0, 0},
		{1, 1, 10, hold(16), -256, -257, 0, -1, -1, 0},
	} {
		for mode, want := range []int{c.down, c.near, c.zero} {
			n, ok := impl.SecondStep(second(c.a, c.b, c.shift, mode, c.w), c.y, c.z, c.x)
			wantNumber(t, fmt.Sprint("step ", c, mode), n, ok, want)
		}
	}
}

func TestPromise4SecondSteps(t *testing.T) {
	samples := []int{0, 1, -5, 77, impl.MaxSample, -impl.MaxSample}
	for _, w := range goodWords() {
		for i, f := range secondsOf(w) {
			for j, p := range somePairs(w, i) {
				x := samples[(i+j)%len(samples)]
				_, want := steppedPair(t, f, p, x)
				n, ok := impl.SecondStep(f, p[0], p[1], x)
				wantNumber(t, fmt.Sprint("step ", f, p, x), n, ok, want[0])
			}
		}
	}
}

func TestPromise4RunsByHand(t *testing.T) {
	example, half := second(0, -2, 1, 0, wrap(4)), second(1, 1, 1, 0, hold(4))
	for _, c := range []struct {
		f       impl.Second
		mode    int
		y, z    int
		s, want []int
	}{
		{example, impl.RoundDown, 3, 1, repeat(0, 8), []int{-1, -3, 1, 3, -1, -3, 1, 3}},
		{example, impl.RoundNear, 3, 1, repeat(0, 4), []int{-1, -3, 1, 3}},
		{example, impl.RoundZero, 3, 1, repeat(0, 4), []int{-1, -3, 1, 3}},
		{example, impl.RoundDown, -8, -8, repeat(0, 3), []int{-8, -8, -8}},
		{half, impl.RoundDown, 7, -8, repeat(0, 5), []int{-1, 3, 1, 2, 1}},
		{half, impl.RoundNear, 7, -8, repeat(0, 4), []int{0, 4, 2, 3}},
		{half, impl.RoundZero, 7, -8, repeat(0, 5), []int{0, 3, 1, 2, 1}},
		{half, impl.RoundDown, 3, 2, []int{3, -1, 4}, []int{5, 3, 7}},
		{half, impl.RoundDown, 3, 2, nil, nil},
		{second(1, 1, 0, 0, hold(16)), impl.RoundDown, 1, 0, repeat(0, 6), []int{1, 2, 3, 5, 8, 13}},
		{second(2, -1, 0, 0, hold(4)), impl.RoundDown, 3, 1, repeat(0, 4), []int{5, 7, 7, 7}},
		{second(2, -1, 0, 0, wrap(4)), impl.RoundDown, 3, 1, repeat(0, 4), []int{5, 7, -7, -5}},
	} {
		f := c.f
		f.Mode = c.mode
		list, ok := impl.RunSecond(f, c.y, c.z, c.s)
		wantList(t, fmt.Sprint("run ", c), list, ok, c.want)
	}
}

func checkPairRun(t *testing.T, f impl.Second, p [2]int, s []int) {
	t.Helper()
	what := fmt.Sprint(f, p, s)
	want, count := ranPair(t, f, p, s)
	list, ok := impl.RunSecond(f, p[0], p[1], s)
	wantList(t, "run "+what, list, ok, want)
	n, ok := impl.CountPairFits(f, p[0], p[1], s)
	wantNumber(t, "fits "+what, n, ok, count)
}

func TestPromise4Runs(t *testing.T) {
	source := numberSource(40)
	for _, w := range goodWords() {
		for i, f := range secondsOf(w) {
			pairs := somePairs(w, i)
			checkPairRun(t, f, pairs[0], source.list(20+source.next(20), 1<<(w.Bits-2)))
			checkPairRun(t, f, pairs[1], smallSignals[i%len(smallSignals)])
			if i%40 == 0 {
				for _, s := range goodSignals() {
					checkPairRun(t, f, pairs[2], s)
				}
			}
		}
	}
}

// A filter without B does what one of the first order does, whatever the
// number before is.
func TestPromise4RunsWithoutB(t *testing.T) {
	source := numberSource(41)
	for _, w := range goodWords() {
		for i, f := range firstsOf(w) {
			s := source.list(30, 1<<(w.Bits-1))
			p := somePairs(w, i)[0]
			want, ok := impl.RunFirst(f, p[0], s)
			count, ok1 := impl.CountFits(f, p[0], s)
			if !ok || !ok1 {
				t.Fatal("no run", f, p, s)
			}
			g := second(f.A, 0, f.Shift, f.Mode, w)
			list, ok := impl.RunSecond(g, p[0], p[1], s)
			wantList(t, fmt.Sprint("run ", g), list, ok, want)
			n, ok := impl.CountPairFits(g, p[0], p[1], s)
			wantNumber(t, fmt.Sprint("fits ", g), n, ok, count)
		}
	}
}

func TestPromise4CountPairFitsByHand(t *testing.T) {
	for _, c := range []struct {
		a, b int
		w    impl.Word
		y, z int
		s    []int
		want int
	}{
		{1, 1, hold(4), 7, 0, []int{0}, 0},
		{1, 1, hold(4), 7, 1, []int{0, 0}, 2}, // 8 and 14
		{1, 1, wrap(4), 7, 1, []int{0, 0}, 1}, // 8 becomes -8, then -1
		{1, 1, hold(4), -8, 0, []int{0}, 0},
		{1, 1, hold(4), -8, -1, []int{0}, 1},
		{1, 1, wrap(4), -8, -1, []int{0}, 1},
		{2, -1, hold(4), 3, 1, []int{0, 0, 0}, 1}, // 5, 7, 9
		{2, -1, wrap(4), 3, 1, []int{0, 0, 0}, 1},
		{2, -1, hold(4), 3, 1, []int{0, 0, -2}, 0},
		{0, -1, hold(4), 3, -8, []int{0, 0, 0, 0}, 1}, // 8 becomes 7
		{0, -1, wrap(4), 3, -8, []int{0, 0, 0, 0}, 2}, // 8 becomes -8 each time
		{1, 1, hold(4), 7, 7, nil, 0},
		{0, 0, hold(2), 1, 1, []int{1, 2, -2, -3, 16}, 3},
		{0, 0, wrap(2), 1, 1, []int{1, 2, -2, -3, 16}, 3},
	} {
		n, ok := impl.CountPairFits(second(c.a, c.b, 0, impl.RoundDown, c.w), c.y, c.z, c.s)
		wantNumber(t, fmt.Sprint("fits ", c), n, ok, c.want)
	}
}

func TestPromise4RunsFail(t *testing.T) {
	for _, f := range badSeconds() {
		checkNothingOfPair(t, f, 0, 0, 0)
		checkNothingOfPair(t, f, 1, 0, -1)
		checkNoPairRun(t, f, 0, 0, nil)
	}
	for _, w := range goodWords() {
		f := second(1, -1, 1, impl.RoundDown, w)
		for _, y := range notIn(w) {
			checkNothingOfPair(t, f, y, 0, 0)
			checkNothingOfPair(t, f, 0, y, 0)
			checkNoPairRun(t, f, y, 0, nil)
			checkNoPairRun(t, f, 0, y, nil)
		}
		for _, x := range badSamples {
			checkNothingOfPair(t, f, 0, 0, x)
		}
		for _, s := range badSignals() {
			checkNoPairRun(t, f, 0, 0, s)
			checkNoPairRun(t, second(0, 0, 0, impl.RoundNear, w), 1, -1, s)
		}
	}
}

// A run is one run behind another one, from the last two numbers.
func TestPromise4RunsGoOn(t *testing.T) {
	source := numberSource(42)
	for _, f := range secondsOf(wrap(9)) {
		s := source.list(impl.MaxSignal, 200)
		whole, ok := impl.RunSecond(f, -5, 17, s)
		begin, ok1 := impl.RunSecond(f, -5, 17, s[:20])
		if !ok || !ok1 {
			t.Fatal("no run", f)
		}
		end, ok := impl.RunSecond(f, begin[19], begin[18], s[20:])
		wantList(t, fmt.Sprint("run ", f), slices.Concat(begin, end), ok, whole)
	}
}
