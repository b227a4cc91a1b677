package tests

import (
	"math"
	"slices"
	"testing"

	"loop.example/g01198/impl"
)

const maxInt = math.MaxInt
const minInt = math.MinInt

var modes = []int{impl.RoundDown, impl.RoundNear, impl.RoundZero}

var badModes = []int{minInt, -1, 3, maxInt}

var badWords = []impl.Word{{}, {Bits: 1}, {Bits: 1, Wrap: true}, {Bits: 17}, {Bits: 17, Wrap: true}, {Bits: -4}, {Bits: minInt}, {Bits: maxInt, Wrap: true}}

// goodWords are all words there are.
func goodWords() []impl.Word {
	var words []impl.Word
	for bits := 2; bits <= 16; bits++ {
		words = append(words, impl.Word{Bits: bits}, impl.Word{Bits: bits, Wrap: true})
	}
	return words
}

func repeat(x int, n int) []int {
	return slices.Repeat([]int{x}, n)
}

// badSignals are one past each limit, and far past them.
func badSignals() [][]int {
	return [][]int{
		repeat(0, impl.MaxSignal+1),
		repeat(1, 1000),
		{impl.MaxSample + 1},
		{-impl.MaxSample - 1},
		{1, 2, maxInt},
		{minInt, 0},
	}
}

// goodSignals meet each limit exactly, among ordinary ones.
func goodSignals() [][]int {
	return [][]int{
		nil,
		{},
		{0},
		{3, -1, 4},
		{7, 7, -8, 8, -9},
		{impl.MaxSample},
		{-impl.MaxSample, impl.MaxSample},
		repeat(0, impl.MaxSignal),
		repeat(impl.MaxSample, impl.MaxSignal),
		repeat(-impl.MaxSample, impl.MaxSignal),
		repeat(-17, impl.MaxSignal-1),
	}
}

func wantNumber(t *testing.T, what string, got int, ok bool, want int) {
	t.Helper()
	if got != want || !ok {
		t.Errorf("%s: got %d, %v, want %d", what, got, ok, want)
	}
}

func wantNoNumber(t *testing.T, what string, got int, ok bool) {
	t.Helper()
	if got != 0 || ok {
		t.Errorf("%s: got %d, %v, want failure", what, got, ok)
	}
}

func wantList(t *testing.T, what string, got []int, ok bool, want []int) {
	t.Helper()
	if !slices.Equal(got, want) || !ok {
		t.Errorf("%s: got %v, %v, want %v", what, got, ok, want)
	}
}

func wantNoList(t *testing.T, what string, got []int, ok bool) {
	t.Helper()
	if len(got) != 0 || ok {
		t.Errorf("%s: got %v, %v, want failure", what, got, ok)
	}
}
