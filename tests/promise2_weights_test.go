package tests

import (
	"fmt"
	"slices"
	"testing"

	"loop.example/g01198/impl"
)

// Promise 2: answers multiply as weights do, and so do their gains; what
// weights are tells what their answers are.

func TestPromise2Gains(t *testing.T) {
	for _, c := range []struct {
		h                []int
		gain, half, size int
	}{
		{[]int{1, 2, 1}, 4, 0, 4},
		{[]int{1, -2, 1}, 0, 4, 4},
		{[]int{5}, 5, 5, 5},
		{[]int{-5}, -5, -5, 5},
		{[]int{0}, 0, 0, 0},
		{[]int{3, 1}, 4, 2, 4},
		{[]int{1, 3}, 4, -2, 4},
		{[]int{0, 0, -7, 2}, -5, -9, 9},
		{repeat(1000, 9), 9000, 1000, 9000},
		{repeat(-1000, 9), -9000, -1000, 9000},
		{[]int{1000, -1000, 1000, -1000, 1000, -1000, 1000, -1000, 1000}, 1000, 9000, 9000},
	} {
		what := fmt.Sprint(c.h)
		n, ok := impl.GainOf(c.h)
		wantNumber(t, "gain "+what, n, ok, c.gain)
		n, ok = impl.GainAtHalf(c.h)
		wantNumber(t, "gain at half "+what, n, ok, c.half)
		n, ok = impl.SizeGain(c.h)
		wantNumber(t, "size gain "+what, n, ok, c.size)
	}
}

// The gains of a product are the products of the gains, and bound its size.
func TestPromise2GainsMultiply(t *testing.T) {
	source := numberSource(9)
	for range 500 {
		a, b := source.list(3+source.next(2), 9), source.list(3+source.next(2), 9)
		product, ok := impl.TimesWeights(a, b)
		if !ok {
			t.Fatal("no product", a, b)
		}
		for name, gain := range map[string]func([]int) (int, bool){"gain": impl.GainOf, "half": impl.GainAtHalf} {
			first, ok1 := gain(a)
			second, ok2 := gain(b)
			n, ok := gain(product)
			wantNumber(t, fmt.Sprint(name, a, b), n, ok && ok1 && ok2, first*second)
		}
		size, ok := impl.SizeGain(a)
		peak, ok1 := impl.PeakOf(b)
		greatest, ok2 := impl.PeakOf(product)
		if !ok || !ok1 || !ok2 || greatest > size*peak {
			t.Error("size gain", a, b, size, peak, greatest)
		}
	}
}

func TestPromise2ConstantSignalsAnswerWithTheGain(t *testing.T) {
	for _, h := range goodWeights() {
		gain, ok := impl.GainOf(h)
		list, ok1 := impl.FilterShort(h, repeat(3, 20))
		if !ok || !ok1 || !slices.Equal(list[8:], repeat(3*gain, 12)) {
			t.Error("constant", h, gain, list)
		}
	}
}

func TestPromise2SymmetricAndMirrored(t *testing.T) {
	for _, c := range []struct {
		h, back             []int
		symmetric, mirrored bool
	}{
		{[]int{1, 2, 1}, []int{1, 2, 1}, true, false},
		{[]int{1, 0, -1}, []int{-1, 0, 1}, false, true},
		{[]int{1, 2, -1}, []int{-1, 2, 1}, false, false},
		{[]int{1, -1}, []int{-1, 1}, false, true},
		{[]int{1, 1}, []int{1, 1}, true, false},
		{[]int{1, 2}, []int{2, 1}, false, false},
		{[]int{0}, []int{0}, true, true},
		{[]int{7}, []int{7}, true, false},
		{[]int{-1000}, []int{-1000}, true, false},
		{[]int{0, 0, 0}, []int{0, 0, 0}, true, true},
		{[]int{1, 2, 3, 4, 5, 4, 3, 2, 1}, []int{1, 2, 3, 4, 5, 4, 3, 2, 1}, true, false},
		{[]int{1, 2, 3, 4, 5, -4, 3, 2, 1}, []int{1, 2, 3, -4, 5, 4, 3, 2, 1}, false, false},
		{[]int{1, 2, 3, 4, 0, -4, -3, -2, -1}, []int{-1, -2, -3, -4, 0, 4, 3, 2, 1}, false, true},
		{[]int{1, 2, 3, 4, 1, -4, -3, -2, -1}, []int{-1, -2, -3, -4, 1, 4, 3, 2, 1}, false, false},
		{[]int{2, 3, -3, -2}, []int{-2, -3, 3, 2}, false, true},
		{[]int{2, 3, -3, 2}, []int{2, -3, 3, 2}, false, false},
		{[]int{2, 3, 3, -2}, []int{-2, 3, 3, 2}, false, false},
	} {
		what := fmt.Sprint(c.h)
		is, ok := impl.IsSymmetric(c.h)
		wantFlag(t, "symmetric "+what, is, ok, c.symmetric)
		is, ok = impl.IsMirrored(c.h)
		wantFlag(t, "mirrored "+what, is, ok, c.mirrored)
		list, ok := impl.BackWeights(c.h)
		wantList(t, "back "+what, list, ok, c.back)
		list, ok = impl.BackWeights(c.back)
		wantList(t, "back again "+what, list, ok, c.h)
	}
}

// A product with the weights backwards is symmetric; backwards, it is the
// product of both backwards.
func TestPromise2BackwardsMultiply(t *testing.T) {
	source := numberSource(10)
	for range 500 {
		a, b := source.list(3+source.next(2), 9), source.list(3+source.next(2), 9)
		backA, ok := impl.BackWeights(a)
		backB, ok1 := impl.BackWeights(b)
		product, ok2 := impl.TimesWeights(a, b)
		back, ok3 := impl.BackWeights(product)
		square, ok4 := impl.TimesWeights(a, backA)
		if !ok || !ok1 || !ok2 || !ok3 || !ok4 {
			t.Fatal(a, b)
		}
		list, ok := impl.TimesWeights(backA, backB)
		wantList(t, fmt.Sprint("backwards ", a, b), list, ok, back)
		is, ok := impl.IsSymmetric(square)
		wantFlag(t, fmt.Sprint("symmetric ", square), is, ok, true)
	}
}

func TestPromise2FoldedProducts(t *testing.T) {
	for _, c := range []struct {
		h    []int
		want int
	}{
		{[]int{1, 2, 1}, 2},
		{[]int{1, 0, -1}, 1},
		{[]int{0}, 0},
		{[]int{-4}, 1},
		{repeat(0, 9), 0},
		{repeat(7, 9), 1},
		{[]int{1, 2, 3, 4, 5, 6, 7, 8, 9}, 9},
		{[]int{-1, 2, -3, 4, 0, -4, 3, -2, 1}, 4},
		{[]int{1000, -1000, 999, 0, 3}, 3},
		{[]int{5, 3, 5, 3, -5}, 2},
	} {
		n, ok := impl.FoldedProducts(c.h)
		wantNumber(t, fmt.Sprint("folded ", c.h), n, ok, c.want)
	}
}

func TestPromise2OfNoWeights(t *testing.T) {
	for _, h := range badWeights() {
		for name, f := range map[string]func([]int) (int, bool){"gain": impl.GainOf, "half": impl.GainAtHalf, "size": impl.SizeGain, "folded": impl.FoldedProducts} {
			n, ok := f(h)
			wantNoNumber(t, fmt.Sprint(name, h), n, ok)
		}
		for name, f := range map[string]func([]int) (bool, bool){"symmetric": impl.IsSymmetric, "mirrored": impl.IsMirrored} {
			is, ok := f(h)
			wantNoFlag(t, fmt.Sprint(name, h), is, ok)
		}
		list, ok := impl.BackWeights(h)
		wantNoList(t, fmt.Sprint("back ", h), list, ok)
	}
}

// bitsFor finds the bits by the definition alone: the least and the greatest
// sum have the least or the greatest number with each weight.
func bitsFor(h []int, w impl.Word) int {
	size := 1 << (w.Bits - 1)
	least, greatest := 0, 0
	for _, weight := range h {
		if weight > 0 {
			least, greatest = least-weight*size, greatest+weight*(size-1)
		} else {
			least, greatest = least+weight*(size-1), greatest-weight*size
		}
	}
	bits, reach := 2, 2
	for least < -reach || greatest > reach-1 {
		bits, reach = bits+1, reach*2
	}
	return bits
}

func TestPromise2BitsNeeded(t *testing.T) {
	for _, c := range []struct {
		h    []int
		bits int
		want int
	}{
		{[]int{1, 2, 1}, 4, 6},
		{[]int{0}, 16, 2},
		{[]int{1}, 2, 2},
		{[]int{1}, 4, 4},
		{[]int{-1}, 4, 5},    // 8 is one too great for 4 bits
		{[]int{2}, 4, 5},     // -16 just fits
		{[]int{-2}, 4, 6},    // 16 just does not
		{[]int{1, -1}, 4, 5}, // from -15 to 15
		{[]int{1, 1}, 4, 5},
		{[]int{2, 1}, 2, 4},
		{[]int{4}, 2, 4},     // from -8 to 4
		{[]int{4, -1}, 2, 5}, // from -9 to 6
		{repeat(1000, 9), 16, 30},
		{repeat(-1000, 9), 16, 30},
		{[]int{1000}, 16, 26},
	} {
		for _, wrap := range []bool{false, true} {
			n, ok := impl.BitsNeeded(c.h, impl.Word{Bits: c.bits, Wrap: wrap})
			wantNumber(t, fmt.Sprint("bits ", c), n, ok, c.want)
		}
	}
	for _, h := range goodWeights() {
		for _, w := range goodWords() {
			n, ok := impl.BitsNeeded(h, w)
			wantNumber(t, fmt.Sprint("bits ", h, w), n, ok, bitsFor(h, w))
		}
	}
	for weight := -1000; weight <= 1000; weight++ {
		for _, h := range [][]int{{weight}, {weight, -1}, {3, weight, 2}} {
			w := impl.Word{Bits: 2 + (weight+1000)%15}
			n, ok := impl.BitsNeeded(h, w)
			wantNumber(t, fmt.Sprint("bits ", h, w), n, ok, bitsFor(h, w))
		}
	}
}

func TestPromise2BitsNeededFails(t *testing.T) {
	for _, h := range badWeights() {
		n, ok := impl.BitsNeeded(h, impl.Word{Bits: 4})
		wantNoNumber(t, fmt.Sprint("bits ", h), n, ok)
	}
	for _, w := range badWords {
		n, ok := impl.BitsNeeded([]int{1, 2}, w)
		wantNoNumber(t, fmt.Sprint("bits ", w), n, ok)
		n, ok = impl.BitsNeeded([]int{0}, w)
		wantNoNumber(t, fmt.Sprint("bits ", w), n, ok)
	}
}

func TestPromise2SpreadWeights(t *testing.T) {
	for _, c := range []struct {
		h    []int
		k    int
		want []int
	}{
		{[]int{1, 2, 1}, 1, []int{1, 2, 1}},
		{[]int{1, 2, 1}, 2, []int{1, 0, 2, 0, 1}},
		{[]int{1, 2, 1}, 4, []int{1, 0, 0, 0, 2, 0, 0, 0, 1}},
		{[]int{1, -2, 1}, 3, []int{1, 0, 0, -2, 0, 0, 1}},
		{[]int{1, 2, 3, 4, 5}, 2, []int{1, 0, 2, 0, 3, 0, 4, 0, 5}},
		{[]int{-1000}, 4, []int{-1000}},
		{[]int{0}, 3, []int{0}},
		{repeat(1000, 9), 1, repeat(1000, 9)},
	} {
		list, ok := impl.SpreadWeights(c.h, c.k)
		wantList(t, fmt.Sprint("spread ", c), list, ok, c.want)
	}
	for length := 1; length <= impl.MaxWeights; length++ {
		for k := 1; k <= 4; k++ {
			h := repeat(3, length)
			want := slices.Repeat(append([]int{3}, repeat(0, k-1)...), length)[:(length-1)*k+1]
			list, ok := impl.SpreadWeights(h, k)
			wantListIf(t, fmt.Sprint("spread ", h, k), list, ok, want, len(want) <= impl.MaxWeights)
		}
		for _, k := range []int{0, 5, -1, minInt, maxInt} {
			list, ok := impl.SpreadWeights(repeat(3, length), k)
			wantNoList(t, fmt.Sprint("spread ", length, k), list, ok)
		}
	}
	for _, h := range badWeights() {
		for k := 1; k <= 4; k++ {
			list, ok := impl.SpreadWeights(h, k)
			wantNoList(t, fmt.Sprint("spread ", h, k), list, ok)
		}
	}
}
