package tests

import (
	"fmt"
	"testing"

	"loop.example/g01198/impl"
)

// Promise 2: filters in words are exact ones fitted.

// wordCall are the arguments of FilterInWord and FilterAtEnd.
type wordCall struct {
	w           impl.Word
	h, s        []int
	shift, mode int
}

// rounded divides by 2^shift with a mode, by the definition alone.
func rounded(t *testing.T, x int, shift int, mode int) int {
	t.Helper()
	size := 1
	for range shift {
		size *= 2
	}
	for n := x/size - 1; n <= x/size+1; n++ {
		if isRounded(x, size, mode, n) {
			return n
		}
	}
	t.Fatal("not rounded:", x, shift, mode)
	return 0
}

func checkInWord(t *testing.T, c wordCall) {
	t.Helper()
	products, ends := make([]int, len(c.s)), make([]int, len(c.s))
	for n := range c.s {
		sum, exact := 0, 0
		for k := 0; k < len(c.h) && k <= n; k++ {
			product := c.h[k] * c.s[n-k]
			sum = fitted(c.w, sum+fitted(c.w, rounded(t, product, c.shift, c.mode)))
			exact += product
		}
		products[n] = sum
		ends[n] = fitted(c.w, rounded(t, exact, c.shift, c.mode))
	}
	list, ok := impl.FilterInWord(c.w, c.h, c.s, c.shift, c.mode)
	wantList(t, fmt.Sprint("in word ", c), list, ok, products)
	list, ok = impl.FilterAtEnd(c.w, c.h, c.s, c.shift, c.mode)
	wantList(t, fmt.Sprint("at end ", c), list, ok, ends)
}

func checkNotInWord(t *testing.T, c wordCall) {
	t.Helper()
	list, ok := impl.FilterInWord(c.w, c.h, c.s, c.shift, c.mode)
	wantNoList(t, fmt.Sprint("in word ", c), list, ok)
	list, ok = impl.FilterAtEnd(c.w, c.h, c.s, c.shift, c.mode)
	wantNoList(t, fmt.Sprint("at end ", c), list, ok)
}

func TestPromise2FilterInWordByHand(t *testing.T) {
	hold, wrap := impl.Word{Bits: 4}, impl.Word{Bits: 4, Wrap: true}
	for _, c := range []struct {
		call         wordCall
		inWord, ends []int
	}{
		// 7 + 7 - 7 passes 7 on the way: held it is 0, wrapped it is 7 again.
		{wordCall{hold, []int{1, 1, -1}, []int{7, 7, 7}, 0, impl.RoundDown}, []int{7, 7, 0}, []int{7, 7, 7}},
		{wordCall{wrap, []int{1, 1, -1}, []int{7, 7, 7}, 0, impl.RoundDown}, []int{7, -2, 7}, []int{7, -2, 7}},
		// From the weight 0 on: -7 first, so that nothing is held.
		{wordCall{hold, []int{-1, 1, 1}, []int{7, 7, 7}, 0, impl.RoundDown}, []int{-7, 0, 7}, []int{-7, 0, 7}},
		// A product is fitted before it is added.
		{wordCall{hold, []int{-4, 3}, []int{7, 7}, 0, impl.RoundDown}, []int{-8, -1}, []int{-8, -7}},
		{wordCall{wrap, []int{-4, 3}, []int{7, 7}, 0, impl.RoundDown}, []int{4, -7}, []int{4, -7}},
		// Each product is rounded, or their sum alone; halves and numbers below 0.
		{wordCall{hold, []int{1, 1}, []int{1, 1}, 1, impl.RoundDown}, []int{0, 0}, []int{0, 1}},
		{wordCall{hold, []int{1, 1}, []int{1, 1}, 1, impl.RoundNear}, []int{1, 2}, []int{1, 1}},
		{wordCall{hold, []int{1, 1}, []int{1, 1}, 1, impl.RoundZero}, []int{0, 0}, []int{0, 1}},
		{wordCall{hold, []int{1, 1}, []int{-3, -3}, 1, impl.RoundDown}, []int{-2, -4}, []int{-2, -3}},
		{wordCall{hold, []int{1, 1}, []int{-3, -3}, 1, impl.RoundNear}, []int{-1, -2}, []int{-1, -3}},
		{wordCall{hold, []int{1, 1}, []int{-3, -3}, 1, impl.RoundZero}, []int{-1, -2}, []int{-1, -3}},
		{wordCall{hold, []int{3}, []int{7, -8}, 2, impl.RoundNear}, []int{5, -6}, []int{5, -6}},
		{wordCall{wrap, []int{7, 7}, []int{7, 7}, 2, impl.RoundDown}, []int{-4, -8}, []int{-4, -8}},
		{wordCall{wrap, []int{7, 7}, []int{7, -7}, 20, impl.RoundDown}, []int{0, -1}, []int{0, 0}},
		{wordCall{hold, []int{5}, nil, 0, impl.RoundDown}, nil, nil},
	} {
		list, ok := impl.FilterInWord(c.call.w, c.call.h, c.call.s, c.call.shift, c.call.mode)
		wantList(t, fmt.Sprint("in word ", c.call), list, ok, c.inWord)
		list, ok = impl.FilterAtEnd(c.call.w, c.call.h, c.call.s, c.call.shift, c.call.mode)
		wantList(t, fmt.Sprint("at end ", c.call), list, ok, c.ends)
		checkInWord(t, c.call)
	}
}

func TestPromise2FilterInWords(t *testing.T) {
	source := numberSource(7)
	for _, w := range goodWords() {
		greatest := 1<<(w.Bits-1) - 1
		for shift := 0; shift <= 20; shift++ {
			for _, mode := range modes {
				h := source.list(5+source.next(4), min(greatest, 1000))
				s := source.list(8+source.next(8), greatest)
				checkInWord(t, wordCall{w, h, s, shift, mode})
			}
		}
	}
}

func TestPromise2FilterInWordAtTheLimits(t *testing.T) {
	for _, w := range goodWords() {
		least, greatest := -1<<(w.Bits-1), 1<<(w.Bits-1)-1
		low, high := max(least, -1000), min(greatest, 1000)
		for _, s := range [][]int{repeat(least, impl.MaxSignal), repeat(greatest, impl.MaxSignal), {least, greatest, least}, {greatest}, nil} {
			for _, h := range [][]int{{low}, {high}, repeat(low, impl.MaxWeights), repeat(high, impl.MaxWeights), {low, high, 0}} {
				for _, shift := range []int{0, 1, w.Bits - 1, 20} {
					for _, mode := range modes {
						checkInWord(t, wordCall{w, h, s, shift, mode})
					}
				}
			}
		}
	}
}

func TestPromise2FilterInWordFails(t *testing.T) {
	good := wordCall{impl.Word{Bits: 8}, []int{1, 2}, []int{3, 4}, 1, impl.RoundDown}
	checkInWord(t, good)
	for _, w := range badWords {
		c := good
		c.w = w
		checkNotInWord(t, c)
		c.h, c.s = []int{0}, nil
		checkNotInWord(t, c)
	}
	for _, h := range badWeights() {
		c := good
		c.h = h
		checkNotInWord(t, c)
		c.w, c.s = impl.Word{Bits: 16, Wrap: true}, nil
		checkNotInWord(t, c)
	}
	for _, s := range badSignals() {
		c := good
		c.s = s
		checkNotInWord(t, c)
		c.w, c.h = impl.Word{Bits: 16, Wrap: true}, []int{0}
		checkNotInWord(t, c)
	}
	for _, shift := range []int{-1, 21, 64, minInt, maxInt} {
		c := good
		c.shift = shift
		checkNotInWord(t, c)
		c.s = nil
		checkNotInWord(t, c)
	}
	for _, mode := range badModes {
		c := good
		c.mode = mode
		checkNotInWord(t, c)
		c.shift, c.s = 0, nil
		checkNotInWord(t, c)
	}
}

func TestPromise2FilterInWordNeedsNumbersOfIt(t *testing.T) {
	for _, w := range goodWords() {
		least, greatest := -1<<(w.Bits-1), 1<<(w.Bits-1)-1
		for _, x := range []int{least - 1, greatest + 1} {
			checkNotInWord(t, wordCall{w, []int{0}, []int{x}, 0, impl.RoundDown})
			checkNotInWord(t, wordCall{w, []int{0, 1}, []int{0, 1, 0, x}, 20, impl.RoundNear})
			if impl.IsWeights([]int{x}) {
				checkNotInWord(t, wordCall{w, []int{x}, []int{0}, 0, impl.RoundDown})
				checkNotInWord(t, wordCall{w, []int{0, 0, x}, []int{1}, 0, impl.RoundZero})
				checkNotInWord(t, wordCall{w, []int{0, x}, nil, 0, impl.RoundZero})
			}
		}
	}
}

// With no shift, and where nothing passes the word, both are the exact answer;
// where it wraps, both are that one fitted.
func TestPromise2FilterInWordIsTheExactOneFitted(t *testing.T) {
	source := numberSource(8)
	for _, w := range goodWords() {
		greatest := 1<<(w.Bits-1) - 1
		for range 40 {
			h := source.list(5+source.next(4), min(greatest, 90))
			s := source.list(20+source.next(20), min(greatest, 100))
			exact, ok := impl.FilterShort(h, s)
			if !ok {
				t.Fatal("no answer", h, s)
			}
			want, ok := impl.FitSignal(w, exact)
			if !ok {
				t.Fatal("not fitted", w, exact)
			}
			list, ok := impl.FilterAtEnd(w, h, s, 0, impl.RoundDown)
			wantList(t, fmt.Sprint("at end ", w, h, s), list, ok, want)
			if w.Wrap {
				list, ok = impl.FilterInWord(w, h, s, 0, impl.RoundNear)
				wantList(t, fmt.Sprint("in word ", w, h, s), list, ok, want)
			}
		}
	}
}
