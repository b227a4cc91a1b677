package tests

import (
	"fmt"
	"testing"

	"loop.example/g01198/impl"
)

// Promise 1: words fit numbers, and shifts round with their rests.

func TestPromise1IsWord(t *testing.T) {
	for _, w := range goodWords() {
		if !impl.IsWord(w) {
			t.Error("no word:", w)
		}
	}
	for _, w := range badWords {
		if impl.IsWord(w) {
			t.Error("a word:", w)
		}
	}
}

func TestPromise1RangeOf(t *testing.T) {
	ranges := map[int][2]int{2: {-2, 1}, 3: {-4, 3}, 4: {-8, 7}, 8: {-128, 127}, 15: {-16384, 16383}, 16: {-32768, 32767}}
	for bits, want := range ranges {
		for _, wrap := range []bool{false, true} {
			least, greatest, ok := impl.RangeOf(impl.Word{Bits: bits, Wrap: wrap})
			if least != want[0] || greatest != want[1] || !ok {
				t.Error(bits, wrap, least, greatest, ok)
			}
		}
	}
	for _, w := range badWords {
		if least, greatest, ok := impl.RangeOf(w); least != 0 || greatest != 0 || ok {
			t.Error(w, least, greatest, ok)
		}
	}
}

// fitted finds the number that fits by the definition alone.
func fitted(w impl.Word, x int) int {
	size := 1
	for range w.Bits {
		size *= 2
	}
	if w.Wrap {
		x = (x%size + size) % size
		if x >= size/2 {
			x -= size
		}
		return x
	}
	return min(max(x, -size/2), size/2-1)
}

func numbersAround(w impl.Word) []int {
	size := 1 << w.Bits
	list := []int{0, 1, -1, 5, -5, 123456789, -987654321, impl.MaxNumber, impl.MaxNumber - 1, -impl.MaxNumber, -impl.MaxNumber + 1}
	for _, x := range []int{size / 2, size, 3 * size / 2, 5 * size} {
		for d := -2; d <= 2; d++ {
			list = append(list, x+d, -x+d)
		}
	}
	return list
}

func TestPromise1FitNumber(t *testing.T) {
	wrap, hold := impl.Word{Bits: 4, Wrap: true}, impl.Word{Bits: 4}
	for x, want := range map[int][2]int{9: {-7, 7}, 7: {7, 7}, 8: {-8, 7}, -8: {-8, -8}, -9: {7, -8}, 16: {0, 7}, -24: {-8, -8}} {
		n, ok := impl.FitNumber(wrap, x)
		wantNumber(t, fmt.Sprint("wrapped ", x), n, ok, want[0])
		n, ok = impl.FitNumber(hold, x)
		wantNumber(t, fmt.Sprint("held ", x), n, ok, want[1])
	}
	for _, w := range goodWords() {
		for _, x := range numbersAround(w) {
			n, ok := impl.FitNumber(w, x)
			wantNumber(t, fmt.Sprint("fit ", w, x), n, ok, fitted(w, x))
		}
	}
}

func TestPromise1FitNumberFails(t *testing.T) {
	for _, x := range []int{impl.MaxNumber + 1, -impl.MaxNumber - 1, maxInt, minInt} {
		for _, w := range goodWords() {
			n, ok := impl.FitNumber(w, x)
			wantNoNumber(t, fmt.Sprint("fit ", w, x), n, ok)
		}
	}
	for _, w := range badWords {
		n, ok := impl.FitNumber(w, 1)
		wantNoNumber(t, fmt.Sprint("fit ", w), n, ok)
	}
}

func TestPromise1AddAndLessIn(t *testing.T) {
	for _, w := range goodWords() {
		least, greatest := -1<<(w.Bits-1), 1<<(w.Bits-1)-1
		numbers := []int{least, least + 1, least / 2, -1, 0, 1, greatest / 2, greatest - 1, greatest}
		for _, a := range numbers {
			for _, b := range numbers {
				what := fmt.Sprint(w, a, b)
				n, ok := impl.AddIn(w, a, b)
				wantNumber(t, "add "+what, n, ok, fitted(w, a+b))
				n, ok = impl.LessIn(w, a, b)
				wantNumber(t, "less "+what, n, ok, fitted(w, a-b))
			}
		}
	}
}

func TestPromise1OfWordFails(t *testing.T) {
	for _, w := range goodWords() {
		least, greatest := -1<<(w.Bits-1), 1<<(w.Bits-1)-1
		for _, x := range []int{least - 1, greatest + 1, least - 1<<w.Bits, greatest + 1<<w.Bits, minInt, maxInt} {
			for _, pair := range [][2]int{{x, 0}, {0, x}, {x, x}, {x, -1}, {1, x}} {
				noneInWord(t, w, pair[0], pair[1])
			}
		}
	}
	for _, w := range badWords {
		noneInWord(t, w, 0, 0)
		noneInWord(t, w, 1, -1)
	}
}

func noneInWord(t *testing.T, w impl.Word, a int, b int) {
	t.Helper()
	what := fmt.Sprint(w, a, b)
	n, ok := impl.AddIn(w, a, b)
	wantNoNumber(t, "add "+what, n, ok)
	n, ok = impl.LessIn(w, a, b)
	wantNoNumber(t, "less "+what, n, ok)
	n, ok = impl.TimesIn(w, a, b, 0, impl.RoundDown)
	wantNoNumber(t, "times "+what, n, ok)
}

// isRounded tells by the definition alone whether n is x divided by size and
// rounded with the mode.
func isRounded(x int, size int, mode int, n int) bool {
	rest := x - n*size
	switch mode {
	case impl.RoundDown:
		return rest >= 0 && rest < size
	case impl.RoundNear:
		return 2*rest >= -size && 2*rest < size
	}
	if x < 0 {
		return rest <= 0 && rest > -size
	}
	return rest >= 0 && rest < size
}

func TestPromise1TimesIn(t *testing.T) {
	for _, w := range goodWords() {
		least, greatest := -1<<(w.Bits-1), 1<<(w.Bits-1)-1
		numbers := []int{least, least/2 - 1, -1, 0, 1, greatest / 2, greatest}
		for _, a := range numbers {
			for _, b := range numbers {
				for shift := 0; shift <= 20; shift++ {
					for _, mode := range modes {
						want, ok := impl.RoundShift(a*b, shift, mode)
						if !ok || !isRounded(a*b, 1<<shift, mode, want) {
							t.Fatal("shifted", a*b, shift, mode, want)
						}
						n, ok := impl.TimesIn(w, a, b, shift, mode)
						wantNumber(t, fmt.Sprint("times ", w, a, b, shift, mode), n, ok, fitted(w, want))
					}
				}
			}
		}
	}
}

func TestPromise1TimesInShiftsBeforeItFits(t *testing.T) {
	hold, wrap := impl.Word{Bits: 4}, impl.Word{Bits: 4, Wrap: true}
	for _, c := range []struct {
		w          impl.Word
		a, b       int
		shift      int
		mode, want int
	}{
		{hold, 7, 7, 3, impl.RoundDown, 6},
		{hold, 7, 7, 2, impl.RoundDown, 7},
		{wrap, 7, 7, 2, impl.RoundDown, -4},
		{wrap, 7, 7, 0, impl.RoundDown, 1},
		{wrap, -3, 1, 1, impl.RoundDown, -2},
		{wrap, -3, 1, 1, impl.RoundNear, -1},
		{wrap, -3, 1, 1, impl.RoundZero, -1},
		{hold, -8, -8, 0, impl.RoundZero, 7},
		{hold, -8, 7, 20, impl.RoundDown, -1},
		{hold, -8, 7, 20, impl.RoundNear, 0},
		{impl.Word{Bits: 16}, -32768, -32768, 20, impl.RoundDown, 1024},
		{impl.Word{Bits: 2, Wrap: true}, -2, -2, 1, impl.RoundDown, -2},
	} {
		n, ok := impl.TimesIn(c.w, c.a, c.b, c.shift, c.mode)
		wantNumber(t, fmt.Sprint("times ", c), n, ok, c.want)
	}
}

func TestPromise1RoundShift(t *testing.T) {
	for _, c := range []struct {
		x, shift         int
		down, near, zero int
	}{
		{-3, 1, -2, -1, -1},
		{3, 1, 1, 2, 1},
		{-1, 1, -1, 0, 0},
		{1, 1, 0, 1, 0},
		{-4, 1, -2, -2, -2},
		{6, 2, 1, 2, 1},
		{-6, 2, -2, -1, -1},
		{5, 2, 1, 1, 1},
		{-5, 2, -2, -1, -1},
		{7, 2, 1, 2, 1},
		{-7, 2, -2, -2, -1},
		{0, 20, 0, 0, 0},
		{-1, 20, -1, 0, 0},
		{524288, 20, 0, 1, 0},
		{524287, 20, 0, 0, 0},
		{-524288, 20, -1, 0, 0},
		{-524289, 20, -1, -1, 0},
		{-5, 0, -5, -5, -5},
		{impl.MaxNumber, 0, impl.MaxNumber, impl.MaxNumber, impl.MaxNumber},
		{-impl.MaxNumber, 0, -impl.MaxNumber, -impl.MaxNumber, -impl.MaxNumber},
		{impl.MaxNumber, 20, 953674, 953674, 953674},
		{-impl.MaxNumber, 20, -953675, -953674, -953674},
	} {
		for mode, want := range []int{c.down, c.near, c.zero} {
			n, ok := impl.RoundShift(c.x, c.shift, mode)
			wantNumber(t, fmt.Sprint("shift ", c.x, c.shift, mode), n, ok, want)
			n, ok = impl.RestOfShift(c.x, c.shift, mode)
			wantNumber(t, fmt.Sprint("rest ", c.x, c.shift, mode), n, ok, c.x-want*(1<<c.shift))
		}
	}
}

func TestPromise1ShiftsHaveTheirRests(t *testing.T) {
	for shift := 0; shift <= 20; shift++ {
		size := 1 << shift
		for _, base := range []int{0, size / 2, size, 3 * size / 2, 1000 * size, impl.MaxNumber - 70} {
			for d := -70; d <= 70; d++ {
				for _, x := range []int{base + d, -base + d} {
					for _, mode := range modes {
						n, ok := impl.RoundShift(x, shift, mode)
						if !ok || !isRounded(x, size, mode, n) {
							t.Error("shift", x, shift, mode, n, ok)
						}
						rest, ok := impl.RestOfShift(x, shift, mode)
						wantNumber(t, fmt.Sprint("rest ", x, shift, mode), rest, ok, x-n*size)
					}
				}
			}
		}
	}
}

func TestPromise1ShiftFails(t *testing.T) {
	type call struct{ x, shift, mode int }
	var calls []call
	for _, x := range []int{impl.MaxNumber + 1, -impl.MaxNumber - 1, maxInt, minInt} {
		calls = append(calls, call{x, 1, impl.RoundDown}, call{x, 20, impl.RoundNear}, call{x, 0, impl.RoundZero})
	}
	for _, shift := range []int{-1, 21, 64, maxInt, minInt} {
		calls = append(calls, call{5, shift, impl.RoundDown}, call{-5, shift, impl.RoundNear}, call{5, shift, impl.RoundZero})
	}
	for _, mode := range badModes {
		calls = append(calls, call{5, 1, mode}, call{-5, 0, mode})
	}
	for _, c := range calls {
		n, ok := impl.RoundShift(c.x, c.shift, c.mode)
		wantNoNumber(t, fmt.Sprint("shift ", c), n, ok)
		n, ok = impl.RestOfShift(c.x, c.shift, c.mode)
		wantNoNumber(t, fmt.Sprint("rest ", c), n, ok)
		if c.x == 5 || c.x == -5 {
			n, ok = impl.TimesIn(impl.Word{Bits: 8}, c.x, 3, c.shift, c.mode)
			wantNoNumber(t, fmt.Sprint("times ", c), n, ok)
		}
	}
}
