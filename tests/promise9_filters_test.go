package tests

import (
	"fmt"
	"testing"

	"loop.example/g01198/impl"
)

// Promise 9: filters find the powers of tones.

// givenBackBy are the numbers c of the filters by their parts.
var givenBackBy = map[int]int{3: -1, 4: 0, 6: 1}

func TestPromise9ToneStatesByHand(t *testing.T) {
	for _, c := range []struct {
		s              []int
		parts          int
		y, z, andPower int
	}{
		{nil, 3, 0, 0, 0},
		{nil, 4, 0, 0, 0},
		{[]int{}, 6, 0, 0, 0},
		{[]int{7}, 3, 7, 0, 49},
		{[]int{-7}, 4, -7, 0, 49},
		{[]int{7}, 6, 7, 0, 49},
		{[]int{1, 2}, 3, 1, 1, 3},
		{[]int{1, 2}, 4, 2, 1, 5},
		{[]int{1, 2}, 6, 3, 1, 7},
		{[]int{1, 2, 3}, 3, 1, 1, 3},
		{[]int{1, 2, 3}, 4, 2, 2, 8},
		{[]int{1, 2, 3}, 6, 5, 3, 19},
		{[]int{1, 2, 3, 4}, 3, 2, 1, 7},
		{[]int{1, 2, 3, 4}, 4, 2, 2, 8},
		{[]int{1, 2, 3, 4}, 6, 6, 5, 31},
		{[]int{3, 0, -3, 0}, 4, 0, -6, 36},
		{[]int{1, 0, 0, 0, 0, 0, 0}, 6, 1, 0, 1},
		{[]int{1, 0, 0, 0, 0, 0}, 6, 0, -1, 1},
		{[]int{1, 0, 0}, 3, 0, -1, 1},
		{[]int{maxSample, 0, -maxSample}, 4, -2 * maxSample, 0, 40000000000},
		{[]int{-maxSample, -maxSample}, 6, -2 * maxSample, -maxSample, 30000000000},
		{[]int{maxSample, -maxSample}, 3, -2 * maxSample, maxSample, 30000000000},
	} {
		y, z, ok := impl.ToneStates(c.s, c.parts)
		wantTwo(t, fmt.Sprint("states ", c.s, c.parts), y, z, ok, c.y, c.z)
		power, ok := impl.TonePower(c.s, c.parts)
		wantNumber(t, fmt.Sprint("power ", c.s, c.parts), power, ok, c.andPower)
	}
}

func checkToneFilters(t *testing.T, s []int) {
	t.Helper()
	for parts, c := range givenBackBy {
		what := fmt.Sprint(parts, s)
		wantY, wantZ := statesBy(s, c)
		y, z, ok := impl.ToneStates(s, parts)
		wantTwo(t, "states "+what, y, z, ok, wantY, wantZ)
		power, ok := impl.TonePower(s, parts)
		wantNumber(t, "power "+what, power, ok, y*y+z*z-c*y*z)
	}
	four, ok := impl.FourPowers(s)
	power, isPower := impl.TonePower(s, 4)
	wantNumber(t, fmt.Sprint("power of tone 1 with four parts ", s), power, ok && isPower, four[1])
	six, ok := impl.SixPowers(s)
	power, isPower = impl.TonePower(s, 6)
	wantNumber(t, fmt.Sprint("power of tone 1 with six parts ", s), power, ok && isPower, six[1])
	power, isPower = impl.TonePower(s, 3)
	wantNumber(t, fmt.Sprint("power of tone 2 with six parts ", s), power, ok && isPower, six[2])
}

func TestPromise9FiltersFindPowers(t *testing.T) {
	for _, s := range toneSignals() {
		checkToneFilters(t, s)
	}
	eachList(7, []int{-3, 0, 1}, func(s []int) { checkToneFilters(t, s) })
}

// Zeros behind a signal turn the states of a filter: whole turns leave them, and
// all leave the power.
func TestPromise9FiltersTurn(t *testing.T) {
	source := numberSource(92)
	for parts := range givenBackBy {
		for zeros := range 60 {
			s := source.list(5, maxSample)
			longer := append(s[:5:5], repeat(0, zeros)...)
			what := fmt.Sprint(parts, longer)
			want, isThere := impl.TonePower(s, parts)
			power, ok := impl.TonePower(longer, parts)
			wantNumber(t, "power "+what, power, isThere && ok, want)
			if zeros%parts == 0 {
				wantY, wantZ, isThere := impl.ToneStates(s, parts)
				y, z, ok := impl.ToneStates(longer, parts)
				wantTwo(t, "states "+what, y, z, isThere && ok, wantY, wantZ)
			}
		}
	}
}

func TestPromise9FiltersFail(t *testing.T) {
	for _, parts := range badParts {
		for _, s := range goodSignals() {
			checkNoFilterOfTone(t, s, parts)
		}
	}
	for _, s := range badSignals() {
		for _, parts := range append(badParts, 3, 4, 6) {
			checkNoFilterOfTone(t, s, parts)
		}
	}
}
