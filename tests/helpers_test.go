package tests

import (
	"math"
	"slices"
	"testing"

	"loop.example/g01198/impl"
)

const maxInt = math.MaxInt
const minInt = math.MinInt

var modes = []int{impl.RoundDown, impl.RoundNear, impl.RoundZero}

var badModes = []int{minInt, -1, 3, maxInt}

var badWords = []impl.Word{{}, {Bits: 1}, {Bits: 1, Wrap: true}, {Bits: 17}, {Bits: 17, Wrap: true}, {Bits: -4}, {Bits: minInt}, {Bits: maxInt, Wrap: true}}

// goodWords are all words there are.
func goodWords() []impl.Word {
	var words []impl.Word
	for bits := 2; bits <= 16; bits++ {
		words = append(words, impl.Word{Bits: bits}, impl.Word{Bits: bits, Wrap: true})
	}
	return words
}

func repeat(x int, n int) []int {
	return slices.Repeat([]int{x}, n)
}

// badSignals are one past each limit, and far past them.
func badSignals() [][]int {
	return [][]int{
		repeat(0, impl.MaxSignal+1),
		repeat(1, 1000),
		{impl.MaxSample + 1},
		{-impl.MaxSample - 1},
		{1, 2, maxInt},
		{minInt, 0},
	}
}

// goodSignals meet each limit exactly, among ordinary ones.
func goodSignals() [][]int {
	return [][]int{
		nil,
		{},
		{0},
		{3, -1, 4},
		{7, 7, -8, 8, -9},
		{impl.MaxSample},
		{-impl.MaxSample, impl.MaxSample},
		repeat(0, impl.MaxSignal),
		repeat(impl.MaxSample, impl.MaxSignal),
		repeat(-impl.MaxSample, impl.MaxSignal),
		repeat(-17, impl.MaxSignal-1),
	}
}

func wantNumber(t *testing.T, what string, got int, ok bool, want int) {
	t.Helper()
	if got != want || !ok {
		t.Errorf("%s: got %d, %v, want %d", what, got, ok, want)
	}
}

func wantNoNumber(t *testing.T, what string, got int, ok bool) {
	t.Helper()
	if got != 0 || ok {
		t.Errorf("%s: got %d, %v, want failure", what, got, ok)
	}
}

func wantList(t *testing.T, what string, got []int, ok bool, want []int) {
	t.Helper()
	if !slices.Equal(got, want) || !ok {
		t.Errorf("%s: got %v, %v, want %v", what, got, ok, want)
	}
}

func wantNoList(t *testing.T, what string, got []int, ok bool) {
	t.Helper()
	if len(got) != 0 || ok {
		t.Errorf("%s: got %v, %v, want failure", what, got, ok)
	}
}

func wantFlag(t *testing.T, what string, got bool, ok bool, want bool) {
	t.Helper()
	if got != want || !ok {
		t.Errorf("%s: got %v, %v, want %v", what, got, ok, want)
	}
}

func wantNoFlag(t *testing.T, what string, got bool, ok bool) {
	t.Helper()
	if got || ok {
		t.Errorf("%s: got %v, %v, want failure", what, got, ok)
	}
}

// goodWeights meet each limit exactly, among ordinary ones.
func goodWeights() [][]int {
	return [][]int{
		{0},
		{1},
		{-1},
		{5},
		{1000},
		{-1000},
		{1, 1},
		{1, -1},
		{0, 2},
		{1, 2, 1},
		{-1, 3, 0, -3, 1},
		{2, -7, 4, -7, 2},
		{3, 0, 0, -5},
		repeat(0, impl.MaxWeights),
		repeat(1, impl.MaxWeights),
		{4, -3, 2, -1, 0, 1, -2, 3, -4},
		{1000, -1000, 1000, -1000, 1000, -1000, 1000, -1000, 1000},
		repeat(-1000, impl.MaxWeights),
		repeat(1000, impl.MaxWeights),
	}
}

// badWeights are one past each limit, and far past them.
func badWeights() [][]int {
	return [][]int{
		nil,
		{},
		repeat(1, impl.MaxWeights+1),
		repeat(0, 1000),
		{1001},
		{-1001},
		{1, 2, maxInt},
		{minInt, 1},
	}
}

// numberSource makes the same numbers in each run.
type numberSource int

// next returns a number in -size..size.
func (n *numberSource) next(size int) int {
	*n = (*n*1103515245 + 12345) % 2147483648
	return int(*n/65536)%(2*size+1) - size
}

func (n *numberSource) list(length int, size int) []int {
	list := make([]int, length)
	for i := range list {
		list[i] = n.next(size)
	}
	return list
}
