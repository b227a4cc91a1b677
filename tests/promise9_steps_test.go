package tests

import (
	"fmt"
	"slices"
	"testing"

	"loop.example/g01198/impl"
)

// Promise 9: steps grow and shrink, and decoded bits are the values of their coder.

func negated(list []int) []int {
	other := slices.Clone(list)
	for i := range other {
		other[i] = -other[i]
	}
	return other
}

func TestPromise9StepBitsByHand(t *testing.T) {
	for _, c := range []struct {
		s                   []int
		first               int
		bits, steps, values []int
	}{
		{nil, 1, nil, nil, nil},
		{[]int{}, maxStep, nil, nil, nil},
		{[]int{0}, 1, []int{1}, []int{1}, []int{1}}, // the sample is just the value
		{[]int{-1}, 1, []int{-1}, []int{1}, []int{-1}},
		{[]int{-1}, maxStep, []int{-1}, []int{maxStep}, []int{-maxStep}},
		{[]int{0, 1}, 1, []int{1, 1}, []int{1, 2}, []int{1, 3}}, // just the value twice
		{[]int{0, 0}, 1, []int{1, -1}, []int{1, 1}, []int{1, 0}},
		{[]int{0, 0, 0}, 1, []int{1, -1, 1}, []int{1, 1, 1}, []int{1, 0, 1}},
		{[]int{0, 0, 0, 0}, 5, []int{1, -1, -1, 1}, []int{5, 2, 4, 2}, []int{5, 3, -1, 1}},
		{[]int{-1, 0, -1, 0}, 2, []int{-1, 1, 1, -1}, []int{2, 1, 2, 1}, []int{-2, -1, 1, 0}},
		{[]int{5, 5, 5, 5}, 1, []int{1, 1, 1, -1}, []int{1, 2, 4, 2}, []int{1, 3, 7, 5}},
		{[]int{-5, -5, -5, -5}, 1, []int{-1, -1, -1, 1}, []int{1, 2, 4, 2}, []int{-1, -3, -7, -5}},
		{[]int{9, 9, 9}, 3, []int{1, 1, 1}, []int{3, 6, 12}, []int{3, 9, 21}}, // just the value
		{[]int{9, 8, 9}, 3, []int{1, 1, 1}, []int{3, 6, 12}, []int{3, 9, 21}},
		{[]int{9, 9, 8}, 3, []int{1, 1, -1}, []int{3, 6, 3}, []int{3, 9, 6}},
		{[]int{0, 0, 9, 0}, 3, []int{1, -1, 1, -1}, []int{3, 1, 1, 1}, []int{3, 2, 3, 2}},
		{[]int{maxSample, maxSample, maxSample}, maxStep, []int{1, 1, 1}, []int{4096, 4096, 4096}, []int{4096, 8192, 12288}},
		{[]int{maxSample, maxSample, 0, 0}, maxStep - 1, []int{1, 1, -1, -1}, []int{4095, 4096, 2048, 4096}, []int{4095, 8191, 6143, 2047}},
		{[]int{-maxSample, -maxSample, -maxSample}, 2048, []int{-1, -1, -1}, []int{2048, 4096, 4096}, []int{-2048, -6144, -10240}},
		{[]int{maxSample, maxSample, maxSample}, 2047, []int{1, 1, 1}, []int{2047, 4094, 4096}, []int{2047, 6141, 10237}},
		{[]int{maxSample, -maxSample, maxSample, -maxSample}, 4095, []int{1, -1, 1, -1}, []int{4095, 2047, 1023, 511}, []int{4095, 2048, 3071, 2560}},
	} {
		what := fmt.Sprint(c.s, c.first)
		list, ok := impl.StepBits(c.s, c.first)
		wantList(t, "bits "+what, list, ok, c.bits)
		list, ok = impl.StepsOfBits(c.bits, c.first)
		wantList(t, "steps "+what, list, ok, c.steps)
		list, ok = impl.StepValues(c.bits, c.first)
		wantList(t, "values "+what, list, ok, c.values)
	}
}

func TestPromise9StepsByHand(t *testing.T) {
	for _, c := range []struct {
		bits  []int
		first int
		want  []int
	}{
		{nil, 1, nil},
		{nil, maxStep, nil},
		{[]int{-1}, 1, []int{1}},
		{[]int{1}, maxStep, []int{maxStep}},
		{[]int{1, -1, 1, -1}, 1, []int{1, 1, 1, 1}},
		{[]int{1, -1, 1, -1, 1}, 5, []int{5, 2, 1, 1, 1}},
		{[]int{-1, 1, 1, 1}, 3, []int{3, 1, 2, 4}},
		{[]int{-1, -1, 1, -1, -1}, maxStep, []int{4096, 4096, 2048, 1024, 2048}},
		{[]int{1, 1, 1}, 2049, []int{2049, 4096, 4096}},
		{repeat(-1, 14), 1, []int{1, 2, 4, 8, 16, 32, 64, 128, 256, 512, 1024, 2048, 4096, 4096}},
		{repeat(1, 13), 3, []int{3, 6, 12, 24, 48, 96, 192, 384, 768, 1536, 3072, 4096, 4096}},
		{slices.Repeat([]int{1, -1}, 7), maxStep, []int{4096, 2048, 1024, 512, 256, 128, 64, 32, 16, 8, 4, 2, 1, 1}},
		{repeat(1, 64), maxStep, repeat(maxStep, 64)},
		{slices.Repeat([]int{-1, 1}, 32), 1, repeat(1, 64)},
	} {
		list, ok := impl.StepsOfBits(c.bits, c.first)
		wantList(t, fmt.Sprint("steps ", c.bits, c.first), list, ok, c.want)
		list, ok = impl.StepsOfBits(negated(c.bits), c.first)
		wantList(t, fmt.Sprint("steps ", negated(c.bits), c.first), list, ok, c.want)
	}
}

// Values may be as great as samples, and no greater.
func TestPromise9StepValuesThatAreNoSamples(t *testing.T) {
	hundred := slices.Concat(repeat(1, 6), []int{-1}, repeat(1, 25))
	for _, c := range []struct {
		bits  []int
		first int
		last  int
		isOne bool
	}{
		{repeat(1, 24), maxStep, 98304, true},
		{repeat(1, 25), maxStep, 102400, false},
		{repeat(1, 64), maxStep, 262144, false},
		{hundred, 96, maxSample, true},
		{append(hundred[:32:32], -1), 96, maxSample - 2048, true},
		{append(hundred[:32:32], 1), 96, maxSample + 4096, false},
		{repeat(1, 24), 1931, maxSample + 1 - maxStep, true},
		{repeat(1, 25), 1931, maxSample + 1, false},
		{append(repeat(1, 25), -1, -1), 1931, maxSample + 1 - 6144, false}, // it is none on the way
		{repeat(1, 64), 1, 217087, false},
		{slices.Repeat([]int{1, -1}, 32), maxStep, 2730, true},
	} {
		for sign := -1; sign <= 1; sign += 2 {
			bits := c.bits
			if sign < 0 {
				bits = negated(bits)
			}
			what := fmt.Sprint("values ", bits, c.first)
			want := valuesBy(bits, stepsBy(bits, c.first))
			wantNumber(t, what+": last", want[len(want)-1], true, sign*c.last)
			list, ok := impl.StepValues(bits, c.first)
			wantListIf(t, what, list, ok, want, c.isOne)
			list, ok = impl.StepsOfBits(bits, c.first)
			wantList(t, "steps "+what, list, ok, stepsBy(bits, c.first))
		}
	}
}

func TestPromise9FixedByHand(t *testing.T) {
	for _, c := range []struct {
		s            []int
		step         int
		bits, values []int
	}{
		{nil, 1, nil, nil},
		{[]int{}, maxStep, nil, nil},
		{[]int{0}, 1, []int{1}, []int{1}},
		{[]int{-1}, maxStep, []int{-1}, []int{-maxStep}},
		{[]int{0, 1, 2, 3}, 1, []int{1, 1, 1, 1}, []int{1, 2, 3, 4}},
		{[]int{0, 0, 0, 0}, 3, []int{1, -1, 1, -1}, []int{3, 0, 3, 0}},
		{[]int{5, 5, 5, 5}, 2, []int{1, 1, 1, -1}, []int{2, 4, 6, 4}},
		{[]int{5, 5, 5, 6}, 2, []int{1, 1, 1, 1}, []int{2, 4, 6, 8}},
		{[]int{-5, -5, -5, -5}, 4, []int{-1, -1, 1, -1}, []int{-4, -8, -4, -8}},
		{[]int{maxSample, maxSample, -maxSample}, maxStep, []int{1, 1, -1}, []int{4096, 8192, 4096}},
	} {
		what := fmt.Sprint(c.s, c.step)
		list, ok := impl.FixedBits(c.s, c.step)
		wantList(t, "bits "+what, list, ok, c.bits)
		list, ok = impl.FixedValues(c.bits, c.step)
		wantList(t, "values "+what, list, ok, c.values)
	}
}

func TestPromise9FixedValuesThatAreNoSamples(t *testing.T) {
	for _, c := range []struct {
		length, step int
		isOne        bool
	}{
		{24, maxStep, true},
		{25, maxStep, false},
		{25, 4000, true},
		{25, 4001, false},
		{32, 3125, true},
		{32, 3126, false},
		{33, 3125, false},
		{64, 1562, true},
		{64, 1563, false},
		{64, maxStep, false},
		{64, 1, true},
	} {
		for bit := -1; bit <= 1; bit += 2 {
			bits := repeat(bit, c.length)
			what := fmt.Sprint("values ", bits, c.step)
			list, ok := impl.FixedValues(bits, c.step)
			wantListIf(t, what, list, ok, valuesBy(bits, repeat(c.step, c.length)), c.isOne)
		}
	}
	// What is none on the way makes none, even if it comes back.
	bits := append(repeat(1, 26), repeat(-1, 10)...)
	list, ok := impl.FixedValues(bits, 4000)
	wantNoList(t, "values "+fmt.Sprint(bits), list, ok)
}

func checkDecoder(t *testing.T, bits []int, step int) {
	t.Helper()
	what := fmt.Sprint(bits, step)
	steps := stepsBy(bits, step)
	list, ok := impl.StepsOfBits(bits, step)
	wantListIf(t, "steps "+what, list, ok, steps, isExact(steps))
	values := valuesBy(bits, steps)
	list, ok = impl.StepValues(bits, step)
	wantListIf(t, "values "+what, list, ok, values, isExact(values))
	values = valuesBy(bits, repeat(step, len(bits)))
	list, ok = impl.FixedValues(bits, step)
	wantListIf(t, "fixed values "+what, list, ok, values, isExact(values))
}

func TestPromise9Decoders(t *testing.T) {
	for _, step := range someSteps {
		for _, bits := range goodBits() {
			checkDecoder(t, bits, step)
			checkDecoder(t, bits[:min(len(bits), impl.MaxSignal)], step)
		}
		for source := range numberSource(30) {
			checkDecoder(t, someBits(9*source, int(2*source+5)), step)
		}
		eachList(7, []int{-1, 1}, func(bits []int) { checkDecoder(t, bits, step) })
	}
}

func checkCoder(t *testing.T, s []int, step int) {
	t.Helper()
	what := fmt.Sprint(s, step)
	bits, ok := impl.StepBits(s, step)
	wantList(t, "bits "+what, bits, ok, bitsBy(s, growing(step)))
	gaps := gapsBy(s, step)
	list, ok := impl.StepGaps(s, step)
	wantListIf(t, "gaps "+what, list, ok, gaps, isExact(gaps))
	gap, ok := impl.GreatestGap(s, step)
	wantNumber(t, "greatest gap "+what, gap, ok, greatestBy(gaps))
	values, ok := impl.StepValues(bits, step)
	for i := range values {
		wantNumber(t, fmt.Sprint("decoded ", what, i), values[i], ok, s[i]-gaps[i])
	}
	bits, ok = impl.FixedBits(s, step)
	wantList(t, "fixed bits "+what, bits, ok, bitsBy(s, constant(step)))
}

func TestPromise9Coders(t *testing.T) {
	for _, step := range someSteps {
		for _, s := range stepSignals() {
			checkCoder(t, s, step)
		}
	}
	for step := 1; step <= 5; step++ {
		eachList(6, []int{-4, 0, 1}, func(s []int) { checkCoder(t, s, step) })
		eachList(3, []int{-9, -3, -2, -1, 0, 1, 2, 3, 8}, func(s []int) { checkCoder(t, s, step) })
	}
}

// walkBy is the coder sample by sample: the values that it has, and the bits
// that it makes of them.
func walkBy(s []int, first int) (bits []int, values []int) {
	value, step := 0, first
	for i, x := range s {
		bit := 1
		if x < value {
			bit = -1
		}
		switch {
		case i == 0:
		case bit == bits[i-1] && step > maxStep/2:
			step = maxStep
		case bit == bits[i-1]:
			step += step
		case step > 1:
			step = (step - step%2) / 2
		}
		value += bit * step
		bits, values = append(bits, bit), append(values, value)
	}
	return bits, values
}

func TestPromise9DecodedBitsAreTheValuesOfTheirCoder(t *testing.T) {
	for first := 1; first <= maxStep; first += 13 {
		source := numberSource(first)
		for _, size := range []int{10, 1000, 40000, maxSample} {
			s := source.list(impl.MaxSignal, size)
			bits, values := walkBy(s, first)
			list, ok := impl.StepBits(s, first)
			wantList(t, fmt.Sprint("bits ", s, first), list, ok, bits)
			list, ok = impl.StepValues(list, first)
			wantListIf(t, fmt.Sprint("values ", s, first), list, ok, values, isExact(values))
		}
	}
}

// Fixed steps stay within one of a signal that they have come to and that goes
// no faster.
func TestPromise9FixedStepsFollow(t *testing.T) {
	for _, step := range []int{1, 2, 7, 500} {
		source := numberSource(step)
		s := make([]int, impl.MaxSignal)
		for i := 1; i < len(s); i++ {
			s[i] = s[i-1] + source.next(step)
		}
		bits, ok := impl.FixedBits(s, step)
		values, isThere := impl.FixedValues(bits, step)
		for i, value := range values {
			wantFlag(t, fmt.Sprint("near ", s, step, i), max(s[i]-value, value-s[i]) <= 2*step, ok && isThere, true)
		}
	}
}

func TestPromise9GapsByHand(t *testing.T) {
	for _, c := range []struct {
		s        []int
		first    int
		gaps     []int
		greatest int
	}{
		{nil, 1, nil, 0},
		{[]int{}, maxStep, nil, 0},
		{[]int{1}, 1, []int{0}, 0},
		{[]int{0}, 1, []int{-1}, 1},
		{[]int{0}, maxStep, []int{-maxStep}, maxStep},
		{[]int{-1}, maxStep, []int{maxStep - 1}, maxStep - 1},
		{[]int{5, 5, 5, 5}, 1, []int{4, 2, -2, 0}, 4},
		{[]int{-5, -5, -5, -5}, 1, []int{-4, -2, 2, 0}, 4},
		{[]int{maxSample}, 1, []int{maxSample - 1}, maxSample - 1},
		{[]int{-1, maxSample}, 1, []int{0, maxSample}, maxSample},
		{[]int{5, 5, 2 - maxSample}, 1, []int{4, 2, -maxSample}, maxSample},
		{[]int{-5, -5, maxSample - 2}, 1, []int{-4, -2, maxSample}, maxSample},
	} {
		list, ok := impl.StepGaps(c.s, c.first)
		wantList(t, fmt.Sprint("gaps ", c.s, c.first), list, ok, c.gaps)
		gap, ok := impl.GreatestGap(c.s, c.first)
		wantNumber(t, fmt.Sprint("greatest gap ", c.s, c.first), gap, ok, c.greatest)
	}
}

// A gap that is no sample is in no list, but it is a greatest one. A value that
// is no sample makes no gap that is none.
func TestPromise9GapsThatAreNoSamples(t *testing.T) {
	for _, c := range []struct {
		s        []int
		first    int
		greatest int
	}{
		{[]int{5, 5, 1 - maxSample}, 1, maxSample + 1},
		{[]int{-5, -5, maxSample - 1}, 1, maxSample + 1},
		{[]int{-5, -5, maxSample}, 1, maxSample + 2},
		{append(repeat(-maxSample, 25), maxSample), maxStep, 200352},
		{append(repeat(maxSample, 25), -maxSample), maxStep, 200352},
	} {
		list, ok := impl.StepGaps(c.s, c.first)
		wantNoList(t, fmt.Sprint("gaps ", c.s, c.first), list, ok)
		gap, ok := impl.GreatestGap(c.s, c.first)
		wantNumber(t, fmt.Sprint("greatest gap ", c.s, c.first), gap, ok, c.greatest)
	}
	s := repeat(maxSample, 25)
	list, ok := impl.StepGaps(s, maxStep)
	wantNumber(t, "gap to 102400", list[24], ok, -2400)
	bits, ok := impl.StepBits(s, maxStep)
	wantList(t, "bits up to 102400", bits, ok, repeat(1, 25))
	list, ok = impl.StepValues(bits, maxStep)
	wantNoList(t, "values up to 102400", list, ok)
}

func TestPromise9CodersFail(t *testing.T) {
	for _, s := range badSignals() {
		for _, step := range append(badSteps, someSteps...) {
			checkNoCoder(t, s, step)
		}
	}
	for _, s := range goodSignals() {
		for _, step := range badSteps {
			checkNoCoder(t, s, step)
		}
	}
}

func TestPromise9DecodersFail(t *testing.T) {
	for _, bits := range badBits() {
		for _, step := range append(badSteps, someSteps...) {
			checkNoDecoder(t, bits, step)
		}
	}
	for _, bits := range goodBits() {
		for _, step := range badSteps {
			checkNoDecoder(t, bits, step)
		}
	}
	for _, length := range []int{impl.MaxSignal + 1, impl.MaxSignal + 2, 100, impl.MaxBitList, impl.MaxBitList + 1} {
		for _, step := range someSteps {
			checkNoDecoder(t, someBits(93, length), step)
			checkNoDecoder(t, slices.Repeat([]int{1, -1}, length)[:length], step)
		}
	}
}
