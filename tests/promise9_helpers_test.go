package tests

import (
	"fmt"
	"testing"

	"loop.example/g01198/impl"
)

// What the tests of promise 9 share: turns, tones and steppers by the definition
// alone.

const maxStep = impl.MaxStep

var badParts = []int{minInt, -6, -4, -3, -1, 0, 1, 2, 5, 7, 8, 12, maxInt}

var badSteps = []int{minInt, -maxStep, -1, 0, maxStep + 1, 2 * maxStep, maxInt}

// someSteps meet each limit exactly, among ordinary ones.
var someSteps = []int{1, 2, 3, 5, 7, 16, 100, 1000, maxStep/2 - 1, maxStep / 2, maxStep/2 + 1, maxStep - 1, maxStep}

// pair is x + y i with four parts, and x + y w with six.
type pair struct{ x, y int }

// turnBy multiplies 1 by i, or by w, so many times.
func turnBy(parts int, number int) pair {
	turn := pair{1, 0}
	for range number {
		if parts == 4 {
			turn = pair{-turn.y, turn.x}
		} else {
			// x w + y w w is x w + y (w - 1).
			turn = pair{-turn.y, turn.x + turn.y}
		}
	}
	return turn
}

// restBy is the number in 0..m - 1 that differs from x by a multiple of m.
func restBy(x int, m int) int {
	return (x%m + m) % m
}

func toneBy(s []int, k int, parts int) pair {
	var tone pair
	for n, x := range s {
		turn := turnBy(parts, restBy(-k*n, parts))
		tone.x += x * turn.x
		tone.y += x * turn.y
	}
	return tone
}

func powerBy(tone pair, parts int) int {
	power := tone.x*tone.x + tone.y*tone.y
	if parts == 6 {
		power += tone.x * tone.y
	}
	return power
}

func powersBy(s []int, parts int) []int {
	powers := make([]int, parts)
	for k := range powers {
		powers[k] = powerBy(toneBy(s, k, parts), parts)
	}
	return powers
}

// toneSignals have each length there is, and samples of the greatest size with
// the signs with which a tone has the greatest power.
func toneSignals() [][]int {
	source := numberSource(90)
	signals := goodSignals()
	for length := 0; length <= impl.MaxSignal; length++ {
		signals = append(signals, source.list(length, 9), source.list(length, maxSample))
	}
	for _, parts := range []int{4, 6} {
		for k := range parts {
			s := make([]int, impl.MaxSignal)
			for n := range s {
				s[n] = maxSample
				if turn := turnBy(parts, restBy(k*n, parts)); 2*turn.x+turn.y < 0 {
					s[n] = -maxSample
				}
			}
			signals = append(signals, s, s[:impl.MaxSignal-1], s[:impl.MaxSignal-5])
		}
	}
	return signals
}

// askTone asks for a tone with four parts or with six.
func askTone(s []int, k int, parts int) (int, int, bool) {
	if parts == 4 {
		return impl.FourTone(s, k)
	}
	return impl.SixTone(s, k)
}

// askPowers asks for the powers with four parts or with six.
func askPowers(s []int, parts int) ([]int, bool) {
	if parts == 4 {
		return impl.FourPowers(s)
	}
	return impl.SixPowers(s)
}

// statesBy makes the numbers of the filter as a list, with two zeros ahead.
func statesBy(s []int, c int) (last int, before int) {
	y := []int{0, 0}
	for n, x := range s {
		y = append(y, x+c*y[n+1]-y[n])
	}
	return y[len(y)-1], y[len(y)-2]
}

// stepsBy tells the steps for bits: each from the one before by the definition alone.
func stepsBy(bits []int, first int) []int {
	var steps []int
	for i, bit := range bits {
		step := first
		if i > 0 {
			step = steps[i-1] / 2
			if bit == bits[i-1] {
				step = steps[i-1] * 2
			}
		}
		if step < 1 {
			step = 1
		}
		if step > maxStep {
			step = maxStep
		}
		steps = append(steps, step)
	}
	return steps
}

// valuesBy adds the steps, with the signs of the bits.
func valuesBy(bits []int, steps []int) []int {
	var values []int
	value := 0
	for i, bit := range bits {
		value += bit * steps[i]
		values = append(values, value)
	}
	return values
}

// bitsBy finds each bit by all bits before it, whose values are made anew.
func bitsBy(s []int, stepsFor func(bits []int) []int) []int {
	var bits []int
	for _, x := range s {
		value := 0
		if len(bits) > 0 {
			value = valuesBy(bits, stepsFor(bits))[len(bits)-1]
		}
		bit := -1
		if x >= value {
			bit = 1
		}
		bits = append(bits, bit)
	}
	return bits
}

func growing(first int) func(bits []int) []int {
	return func(bits []int) []int { return stepsBy(bits, first) }
}

func constant(step int) func(bits []int) []int {
	return func(bits []int) []int { return repeat(step, len(bits)) }
}

// gapsBy is each sample less the value behind its bit, whatever the size.
func gapsBy(s []int, first int) []int {
	bits := bitsBy(s, growing(first))
	gaps := make([]int, len(s))
	for i, value := range valuesBy(bits, stepsBy(bits, first)) {
		gaps[i] = s[i] - value
	}
	return gaps
}

func greatestBy(list []int) int {
	greatest := 0
	for _, x := range list {
		if x > greatest {
			greatest = x
		}
		if -x > greatest {
			greatest = -x
		}
	}
	return greatest
}

// stepSignals meet each limit, and some of them go far away from any value.
func stepSignals() [][]int {
	source := numberSource(95)
	signals := goodSignals()
	for _, size := range []int{0, 1, 3, 50, 5000, maxSample} {
		for length := 0; length <= impl.MaxSignal; length += 7 {
			signals = append(signals, source.list(length, size))
		}
		signals = append(signals, source.list(impl.MaxSignal, size), source.list(1, size), source.list(2, size))
	}
	jump := append(repeat(-maxSample, 30), repeat(maxSample, 34)...)
	return append(signals, []int{5, 5, 5, 5}, jump, repeat(97000, impl.MaxSignal), repeat(-97000, impl.MaxSignal))
}

// checkNoTone wants failure of all calls that find tones or powers, of a signal
// that is none.
func checkNoTone(t *testing.T, s []int) {
	t.Helper()
	for _, parts := range []int{4, 6} {
		what := fmt.Sprint(s, parts)
		for k := -1; k <= parts; k++ {
			x, y, ok := askTone(s, k, parts)
			wantNoTwo(t, fmt.Sprint("tone ", k, what), x, y, ok)
		}
		powers, ok := askPowers(s, parts)
		wantNoList(t, "powers "+what, powers, ok)
	}
	for parts := -1; parts <= 8; parts++ {
		what := fmt.Sprint(s, parts)
		k, ok := impl.StrongestPart(s, parts)
		wantNoNumber(t, "strongest "+what, k, ok)
		checkNoFilterOfTone(t, s, parts)
	}
}

// checkNoFilterOfTone wants failure of the calls of filters that find powers, of
// a signal and a number of parts of which one is none.
func checkNoFilterOfTone(t *testing.T, s []int, parts int) {
	t.Helper()
	what := fmt.Sprint(s, parts)
	y, z, ok := impl.ToneStates(s, parts)
	wantNoTwo(t, "states "+what, y, z, ok)
	power, ok := impl.TonePower(s, parts)
	wantNoNumber(t, "power "+what, power, ok)
}

// checkNoCoder wants failure of all calls that code, of a signal and a step of
// which one is none.
func checkNoCoder(t *testing.T, s []int, step int) {
	t.Helper()
	what := fmt.Sprint(s, step)
	list, ok := impl.StepBits(s, step)
	wantNoList(t, "bits "+what, list, ok)
	list, ok = impl.StepGaps(s, step)
	wantNoList(t, "gaps "+what, list, ok)
	gap, ok := impl.GreatestGap(s, step)
	wantNoNumber(t, "greatest gap "+what, gap, ok)
	list, ok = impl.FixedBits(s, step)
	wantNoList(t, "fixed bits "+what, list, ok)
}

// checkNoDecoder wants failure of all calls that decode, of bits and a step of
// which one is none, or of so many bits that there is no signal.
func checkNoDecoder(t *testing.T, bits []int, step int) {
	t.Helper()
	what := fmt.Sprint(bits, step)
	list, ok := impl.StepsOfBits(bits, step)
	wantNoList(t, "steps "+what, list, ok)
	list, ok = impl.StepValues(bits, step)
	wantNoList(t, "values "+what, list, ok)
	list, ok = impl.FixedValues(bits, step)
	wantNoList(t, "fixed values "+what, list, ok)
}
