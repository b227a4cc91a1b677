package tests

import (
	"fmt"
	"slices"
	"testing"

	"loop.example/g01198/impl"
)

// What the tests of promise 6 share: signals, wrapping, combs, sums and
// differences by the definition alone.

var badStages = []int{minInt, -1, 0, impl.MaxStages + 1, maxInt}

var badRates = []int{minInt, -1, 0, impl.MaxRate + 1, 16, maxInt}

var badLongs = []int{minInt, -1, 0, 1, impl.MaxLong + 1, 64, maxInt}

// eachComb calls visit with all numbers of stages and all rates.
func eachComb(visit func(stages int, rate int)) {
	for stages := 1; stages <= impl.MaxStages; stages++ {
		for rate := 1; rate <= impl.MaxRate; rate++ {
			visit(stages, rate)
		}
	}
}

// combSignals meet each limit exactly, among ordinary ones, as short as no
// samples and shorter than rates, and with sums that are small again.
func combSignals() [][]int {
	source := numberSource(60)
	signals := goodSignals()
	for length := 1; length <= 2*impl.MaxRate+1; length++ {
		signals = append(signals, source.list(length, 9))
	}
	turns := repeat(impl.MaxSample, impl.MaxSignal)
	for i := range turns {
		if i%2 == 1 {
			turns[i] = -impl.MaxSample
		}
	}
	return append(signals,
		[]int{1, 2, 3, 4},
		[]int{impl.MaxSample, -impl.MaxSample, -impl.MaxSample, impl.MaxSample},
		turns,
		repeat(1, impl.MaxSignal),
		repeat(24, impl.MaxSignal),
		repeat(-25, impl.MaxSignal),
		repeat(impl.MaxSample/impl.MaxRate, impl.MaxSignal),
		source.list(impl.MaxSignal, 3),
		source.list(impl.MaxSignal, 1000),
		source.list(impl.MaxSignal-1, 15000),
		append(source.list(30, 30000), -impl.MaxSample),
	)
}

// wrappedBy wraps a number by the definition alone.
func wrappedBy(x int, bits int) int {
	size := 1
	for range bits {
		size *= 2
	}
	x %= size
	if x < -size/2 {
		return x + size
	}
	if x >= size/2 {
		return x - size
	}
	return x
}

func allWrapped(list []int, bits int) []int {
	wrapped := slices.Clone(list)
	for i, x := range list {
		wrapped[i] = wrappedBy(x, bits)
	}
	return wrapped
}

// boxesBy multiplies boxes by the definition alone: each product takes one place
// in each box.
func boxesBy(stages int, rate int) []int {
	weights := make([]int, stages*(rate-1)+1)
	var take func(boxes int, place int)
	take = func(boxes int, place int) {
		if boxes == 0 {
			weights[place]++
			return
		}
		for i := range rate {
			take(boxes-1, place+i)
		}
	}
	take(stages, 0)
	return weights
}

// droppedBy keeps the samples with the indices first, first + rate, and so on.
func droppedBy(list []int, rate int, first int) []int {
	var kept []int
	for i, x := range list {
		if i%rate == first {
			kept = append(kept, x)
		}
	}
	return kept
}

func stuffedBy(list []int, rate int) []int {
	var stuffed []int
	for _, x := range list {
		stuffed = append(append(stuffed, x), make([]int, rate-1)...)
	}
	return stuffed
}

// combedBy makes the exact comb by the definition alone, whatever its size.
func combedBy(s []int, stages int, rate int) []int {
	answer := answered(boxesBy(stages, rate), s)[:len(s)]
	return droppedBy(answer, rate, rate-1)
}

// risenBy makes the exact rise by the definition alone, whatever its size.
func risenBy(s []int, stages int, rate int) []int {
	stuffed := stuffedBy(s, rate)
	return answered(boxesBy(stages, rate), stuffed)[:len(stuffed)]
}

// summedBy makes running sums, so many times, without wrapping.
func summedBy(list []int, stages int) []int {
	for range stages {
		sums := make([]int, len(list))
		for i := range list {
			sums[i] = total(list[:i+1])
		}
		list = sums
	}
	return list
}

// differencesBy makes differences, so many times, without wrapping.
func differencesBy(list []int, stages int) []int {
	for range stages {
		differences := slices.Clone(list)
		for i := 1; i < len(list); i++ {
			differences[i] = list[i] - list[i-1]
		}
		list = differences
	}
	return list
}

// wrapsBy counts what wrapping changes by the definition alone, stage by stage.
func wrapsBy(list []int, bits int, stages int) int {
	count := 0
	for range stages {
		held, sums := 0, []int{}
		for _, x := range list {
			sum := held + x
			held = wrappedBy(sum, bits)
			if held != sum {
				count++
			}
			sums = append(sums, held)
		}
		list = sums
	}
	return count
}

// bitsHolding finds the least number of bits that holds all numbers.
func bitsHolding(list []int) int {
	bits := 2
	for !slices.Equal(allWrapped(list, bits), list) {
		bits++
	}
	return bits
}

func isExact(list []int) bool {
	return inLimits(list, impl.MaxSignal, impl.MaxSample)
}

// checkNoComb wants failure of all calls with a signal, bits, stages and a rate
// of which one is none.
func checkNoComb(t *testing.T, s []int, bits int, stages int, rate int) {
	t.Helper()
	what := fmt.Sprint(s, bits, stages, rate)
	list, ok := impl.WrappedComb(s, bits, stages, rate)
	wantNoList(t, "wrapped comb "+what, list, ok)
	list, ok = impl.WrappedRise(s, bits, stages, rate)
	wantNoList(t, "wrapped rise "+what, list, ok)
}

// checkNoSums wants failure of all calls with a signal, bits and stages of which
// one is none.
func checkNoSums(t *testing.T, s []int, bits int, stages int) {
	t.Helper()
	what := fmt.Sprint(s, bits, stages)
	list, ok := impl.WrappedSums(s, bits, stages)
	wantNoList(t, "sums "+what, list, ok)
	list, ok = impl.WrappedCombs(s, bits, stages)
	wantNoList(t, "combs "+what, list, ok)
	n, ok := impl.CountWraps(s, bits, stages)
	wantNoNumber(t, "wraps "+what, n, ok)
}

// checkNoExact wants failure of all calls with a signal, stages and a rate of
// which one is none.
func checkNoExact(t *testing.T, s []int, stages int, rate int) {
	t.Helper()
	what := fmt.Sprint(s, stages, rate)
	list, ok := impl.ExactComb(s, stages, rate)
	wantNoList(t, "exact comb "+what, list, ok)
	list, ok = impl.ExactRise(s, stages, rate)
	wantNoList(t, "exact rise "+what, list, ok)
	n, ok := impl.LeastBits(s, stages, rate)
	wantNoNumber(t, "least bits "+what, n, ok)
}

// checkNoWeights wants failure of all calls with stages and a rate of which one
// is none.
func checkNoWeights(t *testing.T, stages int, rate int) {
	t.Helper()
	what := fmt.Sprint(stages, " ", rate)
	list, ok := impl.BoxAnswer(stages, rate)
	wantNoList(t, "box "+what, list, ok)
	n, ok := impl.CombGain(stages, rate)
	wantNoNumber(t, "gain "+what, n, ok)
	for _, bits := range []int{2, 4, 16} {
		n, ok = impl.BitsForComb(bits, stages, rate)
		wantNoNumber(t, fmt.Sprint("bits ", bits, what), n, ok)
	}
	a, b, ok := impl.BoxDroop(stages, rate)
	wantNoTwo(t, "droop "+what, a, b, ok)
}
