package tests

import (
	"fmt"
	"testing"

	"loop.example/g01198/impl"
)

// Promise 6: the weights of combs, which wrapped combs answer with, and the bits
// that are enough for them.

func TestPromise6BoxAnswerByHand(t *testing.T) {
	for _, c := range []struct {
		stages, rate int
		want         []int
	}{
		{1, 1, []int{1}},
		{4, 1, []int{1}},
		{1, 2, []int{1, 1}},
		{2, 2, []int{1, 2, 1}},
		{3, 2, []int{1, 3, 3, 1}},
		{4, 2, []int{1, 4, 6, 4, 1}},
		{2, 3, []int{1, 2, 3, 2, 1}},
		{1, 8, []int{1, 1, 1, 1, 1, 1, 1, 1}},
		{3, 3, []int{1, 3, 6, 7, 6, 3, 1}},
		{2, 5, []int{1, 2, 3, 4, 5, 4, 3, 2, 1}},
		{3, 4, []int{1, 3, 6, 10, 12, 12, 10, 6, 3, 1}}, // more than MaxWeights
	} {
		list, ok := impl.BoxAnswer(c.stages, c.rate)
		wantList(t, fmt.Sprint("box ", c), list, ok, c.want)
	}
	list, ok := impl.BoxAnswer(impl.MaxStages, impl.MaxRate)
	if len(list) != 29 || !ok || list[14] != 344 {
		t.Error("the greatest comb:", list, ok)
	}
}

func TestPromise6BoxesAndGains(t *testing.T) {
	eachComb(func(stages int, rate int) {
		what := fmt.Sprint(stages, " ", rate)
		weights := boxesBy(stages, rate)
		list, ok := impl.BoxAnswer(stages, rate)
		wantList(t, "box "+what, list, ok, weights)
		n, ok := impl.CombGain(stages, rate)
		wantNumber(t, "gain "+what, n, ok, total(weights))
	})
	for _, c := range []struct{ stages, rate, want int }{
		{1, 1, 1}, {4, 1, 1}, {1, 8, 8}, {2, 2, 4}, {3, 4, 64}, {3, 5, 125}, {4, 3, 81}, {4, 7, 2401}, {4, 8, 4096},
	} {
		n, ok := impl.CombGain(c.stages, c.rate)
		wantNumber(t, fmt.Sprint("gain ", c), n, ok, c.want)
	}
}

// The weights are those that chapter 2 multiplies, where it has as many.
func TestPromise6BoxesArePowers(t *testing.T) {
	eachComb(func(stages int, rate int) {
		power, ok := impl.PowerWeights(repeat(1, rate), stages)
		if !ok {
			return
		}
		list, ok := impl.BoxAnswer(stages, rate)
		wantList(t, fmt.Sprint("box ", stages, rate), list, ok, power)
	})
}

func TestPromise6BoxDroopByHand(t *testing.T) {
	for _, c := range []struct{ stages, rate, half, gain int }{
		{1, 1, 1, 1},
		{4, 1, 1, 1},
		{1, 2, 0, 1},
		{2, 2, 0, 1},
		{4, 8, 0, 1},
		{1, 3, 1, 3},
		{2, 3, 1, 9},
		{3, 5, 1, 125},
		{4, 7, 1, 2401},
	} {
		a, b, ok := impl.BoxDroop(c.stages, c.rate)
		wantTwo(t, fmt.Sprint("droop ", c), a, b, ok, c.half, c.gain)
	}
}

func TestPromise6BoxDroop(t *testing.T) {
	eachComb(func(stages int, rate int) {
		half, gain := 0, 0
		for i, weight := range boxesBy(stages, rate) {
			gain += weight
			if i%2 == 0 {
				half += weight
			} else {
				half -= weight
			}
		}
		a, b, ok := impl.BoxDroop(stages, rate)
		if !ok || a*gain != b*half || b < 1 || (rate%2 == 0) != (a == 0 && b == 1) || rate%2 == 1 && a != 1 {
			t.Errorf("droop %d %d: %d / %d, %v, want %d / %d in lowest terms", stages, rate, a, b, ok, half, gain)
		}
	})
}

func TestPromise6BitsForCombByHand(t *testing.T) {
	for _, c := range []struct{ bits, stages, rate, want int }{
		{4, 2, 2, 6}, // from -32 to 28
		{2, 1, 1, 2},
		{16, 1, 1, 16},
		{4, 4, 1, 4},
		{4, 1, 3, 6}, // from -24 to 21
		{2, 1, 3, 4}, // from -6 to 3
		{4, 2, 3, 8}, // from -72 to 63
		{2, 1, 8, 5}, // from -16 to 8
		{2, 4, 8, 14},
		{16, 4, 7, 28},
		{16, 4, 8, 28},
	} {
		n, ok := impl.BitsForComb(c.bits, c.stages, c.rate)
		wantNumber(t, fmt.Sprint("bits ", c), n, ok, c.want)
	}
}

func TestPromise6BitsForComb(t *testing.T) {
	eachComb(func(stages int, rate int) {
		weights := boxesBy(stages, rate)
		for bits := 2; bits <= 16; bits++ {
			n, ok := impl.BitsForComb(bits, stages, rate)
			wantNumber(t, fmt.Sprint("bits ", bits, stages, rate), n, ok, bitsFor(weights, hold(bits)))
		}
	})
}

// So many bits are enough for all numbers of the word, and just needed for the
// least one again and again.
func TestPromise6BitsForCombAreEnough(t *testing.T) {
	eachComb(func(stages int, rate int) {
		for bits := 2; bits <= 16; bits++ {
			enough, _ := impl.BitsForComb(bits, stages, rate)
			least, greatest := rangeOf(hold(bits))
			for _, s := range [][]int{repeat(least, impl.MaxSignal), repeat(greatest, impl.MaxSignal)} {
				exact := combedBy(s, stages, rate)
				list, ok := impl.WrappedComb(s, enough, stages, rate)
				wantList(t, fmt.Sprint("with enough bits ", bits, stages, rate), list, ok, exact)
			}
			s := repeat(least, impl.MaxSignal)
			if n := bitsHolding(combedBy(s, stages, rate)); n != enough {
				t.Errorf("bits %d %d %d: %d, but %d are enough for the least numbers", bits, stages, rate, enough, n)
			}
		}
	})
}

func TestPromise6WeightsFail(t *testing.T) {
	for _, stages := range badStages {
		for rate := 1; rate <= impl.MaxRate; rate++ {
			checkNoWeights(t, stages, rate)
		}
		for _, rate := range badRates {
			checkNoWeights(t, stages, rate)
		}
	}
	for _, rate := range badRates {
		for stages := 1; stages <= impl.MaxStages; stages++ {
			checkNoWeights(t, stages, rate)
		}
	}
	eachComb(func(stages int, rate int) {
		for _, bits := range []int{minInt, -1, 0, 1, 17, 40, maxInt} {
			n, ok := impl.BitsForComb(bits, stages, rate)
			wantNoNumber(t, fmt.Sprint("bits ", bits, stages, rate), n, ok)
		}
	})
}
