package tests

import (
	"fmt"
	"slices"
	"testing"

	"loop.example/g01198/impl"
)

// Promise 3: steps and runs are what the document makes of them.

func TestPromise3IsFirst(t *testing.T) {
	for _, w := range goodWords() {
		for _, f := range firstsOf(w) {
			if !impl.IsFirst(f) {
				t.Error("no filter:", f)
			}
		}
	}
	for _, f := range badFirsts() {
		if impl.IsFirst(f) {
			t.Error("a filter:", f)
		}
	}
}

func TestPromise3FirstStepByHand(t *testing.T) {
	for _, c := range []struct {
		a, shift         int
		w                impl.Word
		y, x             int
		down, near, zero int
	}{
		{1, 1, hold(4), 7, 0, 3, 4, 3},
		{1, 1, hold(4), -7, 0, -4, -3, -3},
		{-1, 1, hold(4), 7, 0, -4, -3, -3},
		{-1, 1, hold(4), -7, 0, 3, 4, 3},
		{1, 1, hold(4), -8, 0, -4, -4, -4},
		{3, 2, hold(4), 3, 0, 2, 2, 2}, // 9 / 4
		{3, 2, hold(4), 5, 0, 3, 4, 3}, // 15 / 4
		{3, 2, hold(4), -5, 0, -4, -4, -3},
		{3, 2, hold(4), 2, 0, 1, 2, 1}, // 6 / 4, a half
		{3, 2, hold(4), -2, 0, -2, -1, -1},
		{-3, 2, hold(4), 2, 0, -2, -1, -1},
		// A sample is added behind the shift: 7 / 2 and 1, not 8 / 2.
		{1, 1, hold(4), 7, 1, 4, 5, 4},
		{1, 1, hold(4), -7, 1, -3, -2, -2},
		// Fitted at the end: 3 and 5, 4 and 5.
		{1, 1, hold(4), 7, 5, 7, 7, 7},
		{1, 1, wrap(4), 7, 5, -8, -7, -8},
		{1, 1, wrap(4), -7, -5, 7, -8, -8},
		{1, 1, hold(4), -7, -5, -8, -8, -8},
		{2, 0, hold(4), 7, 0, 7, 7, 7},
		{2, 0, wrap(4), 7, 0, -2, -2, -2},
		// Fitted just once: 14 less 8, and -16 and 9.
		{2, 0, hold(4), 7, -8, 6, 6, 6},
		{2, 0, hold(4), -8, 9, -7, -7, -7},
		{0, 10, hold(4), -8, -3, -3, -3, -3},
		{1024, 10, hold(16), -32768, 0, -32768, -32768, -32768},
		{1024, 10, hold(16), 32767, -1, 32766, 32766, 32766},
		{-1024, 10, wrap(16), -32768, 0, -32768, -32768, -32768},
		{-1024, 10, hold(16), -32768, 0, 32767, 32767, 32767},
		{1, 10, hold(4), -1, 0, -1, 0, 0},
		{1, 10, hold(16), 512, 0, 0, 1, 0},
		{1, 10, hold(16), -512, 0, -1, 0, 0},
		{1024, 0, hold(16), 32767, -impl.MaxSample, 32767, 32767, 32767},
		{1024, 0, wrap(16), 32767, 0, -1024, -1024, -1024},
		{1024, 0, hold(2), -2, impl.MaxSample, 1, 1, 1},
		{0, 0, wrap(16), 5, impl.MaxSample, -31072, -31072, -31072},
		{0, 0, wrap(16), 5, -impl.MaxSample, 31072, 31072, 31072},
	} {
		for mode, want := range []int{c.down, c.near, c.zero} {
			n, ok := impl.FirstStep(first(c.a, c.shift, mode, c.w), c.y, c.x)
			wantNumber(t, fmt.Sprint("step ", c, mode), n, ok, want)
		}
	}
}

func TestPromise3FirstSteps(t *testing.T) {
	for _, w := range goodWords() {
		for _, f := range firstsOf(w) {
			for _, y := range someNumbers(w) {
				for _, x := range []int{0, 1, -5, 77, impl.MaxSample, -impl.MaxSample} {
					_, want := stepped(t, f, y, x)
					n, ok := impl.FirstStep(f, y, x)
					wantNumber(t, fmt.Sprint("step ", f, y, x), n, ok, want)
				}
			}
		}
	}
}

func TestPromise3RunsOfTheExample(t *testing.T) {
	zeros := repeat(0, 4)
	for _, c := range []struct {
		mode, y int
		s, want []int
	}{
		{impl.RoundDown, 7, zeros, []int{3, 1, 0, 0}},
		{impl.RoundDown, -8, zeros, []int{-4, -2, -1, -1}},
		{impl.RoundDown, 0, repeat(1, 3), []int{1, 1, 1}},
		{impl.RoundNear, 7, zeros, []int{4, 2, 1, 1}},
		{impl.RoundNear, -8, zeros, []int{-4, -2, -1, 0}},
		{impl.RoundNear, 0, repeat(1, 4), []int{1, 2, 2, 2}},
		{impl.RoundZero, 7, zeros, []int{3, 1, 0, 0}},
		{impl.RoundZero, -8, zeros, []int{-4, -2, -1, 0}},
		{impl.RoundDown, 5, []int{3, -1, 4}, []int{5, 1, 4}},
		{impl.RoundDown, 5, nil, nil},
	} {
		list, ok := impl.RunFirst(first(1, 1, c.mode, hold(4)), c.y, c.s)
		wantList(t, fmt.Sprint("run ", c), list, ok, c.want)
	}
}

func checkRun(t *testing.T, f impl.First, y int, s []int) {
	t.Helper()
	what := fmt.Sprint(f, y, s)
	want, count := ran(t, f, y, s)
	list, ok := impl.RunFirst(f, y, s)
	wantList(t, "run "+what, list, ok, want)
	n, ok := impl.CountFits(f, y, s)
	wantNumber(t, "fits "+what, n, ok, count)
}

func TestPromise3Runs(t *testing.T) {
	source := numberSource(20)
	for _, w := range goodWords() {
		numbers := someNumbers(w)
		for i, f := range firstsOf(w) {
			checkRun(t, f, numbers[i%len(numbers)], source.list(30+source.next(30), 1<<(w.Bits-2)))
			checkRun(t, f, numbers[(i+4)%len(numbers)], smallSignals[i%len(smallSignals)])
		}
		for _, f := range []impl.First{first(1, 1, impl.RoundDown, w), first(-1024, 0, impl.RoundNear, w), first(1023, 10, impl.RoundZero, w)} {
			for _, y := range numbers {
				for _, s := range goodSignals() {
					checkRun(t, f, y, s)
				}
			}
		}
	}
}

// Where nothing is fitted and nothing is rounded, a run with A = 1 and no
// shift makes running sums.
func TestPromise3RunsAreRunningSums(t *testing.T) {
	for _, s := range smallSignals {
		want, ok := impl.RunningSums(s)
		if !ok {
			t.Fatal("no sums", s)
		}
		for _, mode := range modes {
			list, ok := impl.RunFirst(first(1, 0, mode, hold(16)), 0, s)
			wantList(t, fmt.Sprint("run ", s), list, ok, want)
		}
	}
}

func TestPromise3CountFitsByHand(t *testing.T) {
	for _, c := range []struct {
		a, shift int
		w        impl.Word
		y        int
		s        []int
		want     int
	}{
		{1, 0, hold(4), 7, []int{0, 0}, 0},
		{1, 0, hold(4), 7, []int{1, 0, 1}, 2}, // 8, 7, 8
		{1, 0, wrap(4), 7, []int{1, 0, 1}, 1}, // 8 becomes -8, then -8 and -7
		{1, 0, hold(4), -8, []int{-1, -1}, 2},
		{1, 0, wrap(4), -8, []int{-1, -1}, 1},
		{-1, 0, hold(4), -8, []int{0, 0, 0}, 1}, // 8 becomes 7
		{-1, 0, wrap(4), -8, []int{0, 0, 0}, 3}, // 8 becomes -8 again and again
		{2, 0, hold(4), 7, []int{-7, -7, -7}, 0},
		{2, 0, hold(4), 7, []int{-6, -7, -8}, 1}, // 8, 7, 6
		{1, 1, hold(4), 0, []int{7, 7, 7}, 2},    // 7, 10, 10
		{1, 1, hold(4), 0, nil, 0},
		{0, 0, hold(2), 1, []int{1, 2, -2, -3, 16}, 3},
		{0, 0, wrap(2), 1, []int{1, 2, -2, -3, 16}, 3},
	} {
		n, ok := impl.CountFits(first(c.a, c.shift, impl.RoundDown, c.w), c.y, c.s)
		wantNumber(t, fmt.Sprint("fits ", c), n, ok, c.want)
	}
}

func TestPromise3ImpulseOf(t *testing.T) {
	list, ok := impl.ImpulseOf(first(1, 1, impl.RoundDown, hold(4)), 6, 5)
	wantList(t, "impulse", list, ok, []int{6, 3, 1, 0, 0})
	list, ok = impl.ImpulseOf(first(1, 1, impl.RoundDown, wrap(4)), 9, 4)
	wantList(t, "impulse", list, ok, []int{-7, -4, -2, -1})
	list, ok = impl.ImpulseOf(first(1, 1, impl.RoundDown, hold(4)), impl.MaxSample, 1)
	wantList(t, "impulse", list, ok, []int{7})
	for _, w := range []impl.Word{hold(2), wrap(5), hold(10), wrap(16)} {
		for _, f := range firstsOf(w) {
			for _, x := range []int{0, 1, -3, 200, impl.MaxSample, -impl.MaxSample} {
				for _, n := range []int{0, 1, 2, 17, impl.MaxSignal} {
					s := append([]int{x}, repeat(0, impl.MaxSignal)...)[:n]
					want, _ := ran(t, f, 0, s)
					list, ok := impl.ImpulseOf(f, x, n)
					wantList(t, fmt.Sprint("impulse ", f, x, n), list, ok, want)
				}
			}
		}
	}
}

func TestPromise3ImpulseOfFails(t *testing.T) {
	good := first(1, 1, impl.RoundDown, hold(4))
	for _, n := range []int{-1, impl.MaxSignal + 1, minInt, maxInt} {
		list, ok := impl.ImpulseOf(good, 1, n)
		wantNoList(t, fmt.Sprint("impulse ", n), list, ok)
	}
	for _, n := range []int{0, 1, impl.MaxSignal} {
		for _, x := range badSamples {
			list, ok := impl.ImpulseOf(good, x, n)
			wantNoList(t, fmt.Sprint("impulse ", x, n), list, ok)
		}
		for _, f := range badFirsts() {
			list, ok := impl.ImpulseOf(f, 1, n)
			wantNoList(t, fmt.Sprint("impulse ", f, n), list, ok)
		}
	}
}

func TestPromise3RunsFail(t *testing.T) {
	for _, f := range badFirsts() {
		checkNothingOf(t, f, 0, 0)
		checkNothingOf(t, f, 1, -1)
		checkNoRun(t, f, 0, nil)
	}
	for _, w := range goodWords() {
		f := first(1, 1, impl.RoundDown, w)
		for _, y := range notIn(w) {
			checkNothingOf(t, f, y, 0)
			checkNoRun(t, f, y, nil)
		}
		for _, x := range badSamples {
			checkNothingOf(t, f, 0, x)
		}
		for _, s := range badSignals() {
			checkNoRun(t, f, 0, s)
			checkNoRun(t, first(0, 0, impl.RoundNear, w), 1, s)
		}
	}
}

// A run is one run behind another one.
func TestPromise3RunsGoOn(t *testing.T) {
	source := numberSource(21)
	for _, f := range firstsOf(wrap(9)) {
		s := source.list(impl.MaxSignal, 200)
		whole, ok := impl.RunFirst(f, -5, s)
		begin, ok1 := impl.RunFirst(f, -5, s[:20])
		if !ok || !ok1 {
			t.Fatal("no run", f)
		}
		end, ok := impl.RunFirst(f, begin[19], s[20:])
		wantList(t, fmt.Sprint("run ", f), slices.Concat(begin, end), ok, whole)
	}
}
