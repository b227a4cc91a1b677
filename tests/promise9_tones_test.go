package tests

import (
	"fmt"
	"slices"
	"testing"

	"loop.example/g01198/impl"
)

// Promise 9: tones are sums of samples times turns, and powers are their squares.

const allSamples = impl.MaxSignal * maxSample

func TestPromise9TonesByHand(t *testing.T) {
	for _, c := range []struct {
		s    []int
		four [4]pair
		six  [6]pair
	}{
		{nil, [4]pair{}, [6]pair{}},
		{[]int{}, [4]pair{}, [6]pair{}},
		{[]int{0}, [4]pair{}, [6]pair{}},
		{[]int{7}, [4]pair{{7, 0}, {7, 0}, {7, 0}, {7, 0}}, [6]pair{{7, 0}, {7, 0}, {7, 0}, {7, 0}, {7, 0}, {7, 0}}},
		{[]int{1, 2}, [4]pair{{3, 0}, {1, -2}, {-1, 0}, {1, 2}}, [6]pair{{3, 0}, {3, -2}, {1, -2}, {-1, 0}, {-1, 2}, {1, 2}}},
		{[]int{0, -5}, [4]pair{{-5, 0}, {0, 5}, {5, 0}, {0, -5}}, [6]pair{{-5, 0}, {-5, 5}, {0, 5}, {5, 0}, {5, -5}, {0, -5}}},
		{[]int{3, 0, -3, 0}, [4]pair{{0, 0}, {6, 0}, {0, 0}, {6, 0}}, [6]pair{{0, 0}, {3, 3}, {6, -3}, {0, 0}, {3, 3}, {6, -3}}},
		{[]int{1, 2, 3, 4, 5}, [4]pair{{15, 0}, {3, 2}, {3, 0}, {3, -2}}, [6]pair{{15, 0}, {-6, 0}, {2, -4}, {3, 0}, {-2, 4}, {-6, 0}}},
		{[]int{0, 0, 0, 0, 0, 1}, [4]pair{{1, 0}, {0, -1}, {-1, 0}, {0, 1}}, [6]pair{{1, 0}, {0, 1}, {-1, 1}, {-1, 0}, {0, -1}, {1, -1}}},
		{repeat(maxSample, 64), [4]pair{{allSamples, 0}, {}, {}, {}}, [6]pair{{allSamples, 0}, {maxSample, -2 * maxSample}, {maxSample, 0}, {}, {maxSample, 0}, {-maxSample, 2 * maxSample}}},
		{repeat(-maxSample, 64), [4]pair{{-allSamples, 0}, {}, {}, {}}, [6]pair{{-allSamples, 0}, {-maxSample, 2 * maxSample}, {-maxSample, 0}, {}, {-maxSample, 0}, {maxSample, -2 * maxSample}}},
	} {
		for k, want := range c.four {
			x, y, ok := impl.FourTone(c.s, k)
			wantTwo(t, fmt.Sprint("four ", c.s, k), x, y, ok, want.x, want.y)
		}
		for k, want := range c.six {
			x, y, ok := impl.SixTone(c.s, k)
			wantTwo(t, fmt.Sprint("six ", c.s, k), x, y, ok, want.x, want.y)
		}
	}
}

func TestPromise9PowersByHand(t *testing.T) {
	for _, c := range []struct{ s, four, six []int }{
		{nil, repeat(0, 4), repeat(0, 6)},
		{[]int{0, 0, 0}, repeat(0, 4), repeat(0, 6)},
		{[]int{-3}, repeat(9, 4), repeat(9, 6)},
		{[]int{3, 0, -3, 0}, []int{0, 36, 0, 36}, []int{0, 27, 27, 0, 27, 27}},
		{[]int{1, 2}, []int{9, 5, 1, 5}, []int{9, 7, 3, 1, 3, 7}},
		{[]int{1, -1}, []int{0, 2, 4, 2}, []int{0, 1, 3, 4, 3, 1}},
		{[]int{6, 13, 6, -1}, []int{576, 196, 0, 196}, []int{576, 381, 57, 0, 57, 381}},
		{[]int{maxSample}, repeat(10000000000, 4), repeat(10000000000, 6)},
		{[]int{0, -99999}, repeat(9999800001, 4), repeat(9999800001, 6)},
		{repeat(maxSample, 64), []int{40960000000000, 0, 0, 0}, []int{40960000000000, 30000000000, 10000000000, 0, 10000000000, 30000000000}},
		{repeat(-99999, 63), []int{39689206203969, 9999800001, 9999800001, 9999800001}, []int{39689206203969, 39999200004, 0, 9999800001, 0, 39999200004}},
	} {
		list, ok := impl.FourPowers(c.s)
		wantList(t, fmt.Sprint("four ", c.s), list, ok, c.four)
		list, ok = impl.SixPowers(c.s)
		wantList(t, fmt.Sprint("six ", c.s), list, ok, c.six)
	}
}

func TestPromise9Tones(t *testing.T) {
	for _, s := range toneSignals() {
		for _, parts := range []int{4, 6} {
			what := fmt.Sprint(parts, s)
			for k := range parts {
				x, y, ok := askTone(s, k, parts)
				want := toneBy(s, k, parts)
				wantTwo(t, fmt.Sprint("tone ", k, what), x, y, ok, want.x, want.y)
			}
			powers, ok := askPowers(s, parts)
			wantList(t, "powers "+what, powers, ok, powersBy(s, parts))
		}
	}
}

// Powers are told to the last digit, which they would lose in single precision.
func TestPromise9GreatPowersAreExact(t *testing.T) {
	for _, parts := range []int{4, 6} {
		for length := 1; length <= impl.MaxSignal; length++ {
			for _, last := range []int{1, -1, maxSample - 1, 1 - maxSample} {
				s := append(repeat(maxSample, length-1), last)
				powers, ok := askPowers(s, parts)
				wantList(t, fmt.Sprint("powers ", parts, s), powers, ok, powersBy(s, parts))
				sum := total(s)
				wantNumber(t, fmt.Sprint("power ", parts, s), powers[0], ok, sum*sum)
			}
		}
	}
}

// A delay turns each tone, and leaves its power.
func TestPromise9DelaysKeepPowers(t *testing.T) {
	source := numberSource(91)
	for _, parts := range []int{4, 6} {
		for delay := range 14 {
			s := source.list(impl.MaxSignal-delay, maxSample)
			delayed, ok := impl.DelaySignal(s, delay)
			wantNumber(t, "delayed", len(delayed), ok, impl.MaxSignal)
			powers, ok := askPowers(delayed, parts)
			wantList(t, fmt.Sprint("powers ", parts, delayed), powers, ok, powersBy(s, parts))
		}
	}
}

// All powers together are so many times the energy of the signal laid over
// itself as many samples later.
func TestPromise9PowersTellTheEnergy(t *testing.T) {
	for _, s := range toneSignals() {
		for _, parts := range []int{4, 6} {
			sums, energy := make([]int, parts), 0
			for n, x := range s {
				sums[n%parts] += x
			}
			for _, x := range sums {
				energy += x * x
			}
			powers, ok := askPowers(s, parts)
			wantNumber(t, fmt.Sprint("all powers ", parts, s), total(powers), ok, parts*energy)
		}
	}
}

func TestPromise9TonesFail(t *testing.T) {
	for _, s := range badSignals() {
		checkNoTone(t, s)
	}
	checkNoTone(t, append(repeat(maxSample, impl.MaxSignal-1), maxSample+1))
	for _, s := range goodSignals() {
		for _, k := range []int{minInt, -6, -4, -1, 4, 5, 8, maxInt} {
			x, y, ok := impl.FourTone(s, k)
			wantNoTwo(t, fmt.Sprint("four ", s, k), x, y, ok)
		}
		for _, k := range []int{minInt, -6, -4, -1, 6, 7, 12, maxInt} {
			x, y, ok := impl.SixTone(s, k)
			wantNoTwo(t, fmt.Sprint("six ", s, k), x, y, ok)
		}
		for _, parts := range append(badParts, 3) {
			k, ok := impl.StrongestPart(s, parts)
			wantNoNumber(t, fmt.Sprint("strongest ", s, parts), k, ok)
		}
	}
}

func TestPromise9ToneOfPartByHand(t *testing.T) {
	for _, c := range []struct {
		parts, k, size, n int
		want              []int
	}{
		{4, 0, 7, 2, []int{7, 7}},
		{4, 1, 5, 6, []int{5, 0, -5, 0, 5, 0}},
		{4, 2, 3, 3, []int{3, -3, 3}},
		{4, 3, 1, 4, []int{1, 0, -1, 0}},
		{4, 1, 1000, 1, []int{1000}},
		{4, 3, 1000, 0, nil},
		{4, 2, 1000, 64, slices.Repeat([]int{1000, -1000}, 32)},
		{6, 0, 1000, 64, repeat(2000, 64)},
		{6, 1, 1, 7, []int{2, 1, -1, -2, -1, 1, 2}},
		{6, 2, 1000, 4, []int{2000, -1000, -1000, 2000}},
		{6, 3, 10, 3, []int{20, -20, 20}},
		{6, 4, 1, 3, []int{2, -1, -1}},
		{6, 5, 1, 6, []int{2, 1, -1, -2, -1, 1}},
		{6, 5, 0, 3, []int{0, 0, 0}},
		{6, 0, 0, 0, nil},
	} {
		list, ok := impl.ToneOfPart(c.parts, c.k, c.size, c.n)
		wantList(t, fmt.Sprint("tone ", c), list, ok, c.want)
	}
}

func TestPromise9ToneOfPart(t *testing.T) {
	for _, parts := range []int{4, 6} {
		for k := range parts {
			for _, size := range []int{0, 1, 3, 999, 1000} {
				for n := 0; n <= impl.MaxSignal; n++ {
					want := []int{}
					for m := range n {
						turn := turnBy(parts, restBy(k*m, parts))
						want = append(want, size*[]int{4: turn.x, 6: 2*turn.x + turn.y}[parts])
					}
					list, ok := impl.ToneOfPart(parts, k, size, n)
					wantList(t, fmt.Sprint("tone ", parts, k, size, n), list, ok, want)
				}
			}
		}
	}
}

// A signal of whole turns has power in its own tone alone, and in the one that
// turns the other way.
func TestPromise9TonesOfParts(t *testing.T) {
	for _, parts := range []int{4, 6} {
		for k := range parts {
			s, ok := impl.ToneOfPart(parts, k, 10, 5*parts)
			powers, isGood := askPowers(s, parts)
			strongest, isFound := impl.StrongestPart(s, parts)
			wantNumber(t, fmt.Sprint("strongest ", parts, k), strongest, ok && isFound, min(k, restBy(-k, parts)))
			for j, power := range powers {
				isIn := j == k || j == restBy(-k, parts)
				wantFlag(t, fmt.Sprint("power ", parts, k, j), power > 0, isGood, isIn)
			}
		}
	}
}

func TestPromise9ToneOfPartFails(t *testing.T) {
	for _, parts := range append(badParts, 3) {
		for _, k := range []int{-1, 0, 1, parts - 1, parts} {
			list, ok := impl.ToneOfPart(parts, k, 1, 1)
			wantNoList(t, fmt.Sprint("tone ", parts, k), list, ok)
			list, ok = impl.ToneOfPart(parts, k, 0, 0)
			wantNoList(t, fmt.Sprint("tone ", parts, k), list, ok)
		}
	}
	for _, parts := range []int{4, 6} {
		for _, k := range []int{minInt, -parts, -1, parts, parts + 1, 2 * parts, maxInt} {
			for _, n := range []int{0, 1, impl.MaxSignal} {
				list, ok := impl.ToneOfPart(parts, k, 1, n)
				wantNoList(t, fmt.Sprint("tone ", parts, k, n), list, ok)
			}
		}
		for k := range parts {
			for _, size := range []int{minInt, -1000, -1, 1001, maxSample, maxInt} {
				for _, n := range []int{0, 1, impl.MaxSignal} {
					list, ok := impl.ToneOfPart(parts, k, size, n)
					wantNoList(t, fmt.Sprint("tone ", parts, k, size, n), list, ok)
				}
			}
			for _, n := range badLengths {
				list, ok := impl.ToneOfPart(parts, k, 0, n)
				wantNoList(t, fmt.Sprint("tone ", parts, k, n), list, ok)
			}
		}
	}
}

func TestPromise9StrongestPartByHand(t *testing.T) {
	for _, c := range []struct {
		s         []int
		four, six int
	}{
		{nil, 0, 0},
		{[]int{}, 0, 0},
		{[]int{0, 0, 0}, 0, 0},
		{[]int{5}, 0, 0},           // all powers are 25
		{[]int{0, 0, -5}, 0, 0},    // the same, behind a delay
		{[]int{1, 2}, 0, 0},        // 9 is alone
		{[]int{1, -1}, 2, 3},       // 4 is alone
		{[]int{1, 0, -1}, 1, 1},    // 4 twice with four parts, 3 four times with six
		{[]int{1, 0, 1}, 0, 0},     // 4 twice, beside 1
		{[]int{3, 0, -3, 0}, 1, 1}, // 36 twice, 27 four times
		{[]int{1, 0, 0, -1}, 2, 1}, // 4 alone with four parts, three times with six
		{[]int{2, -1, -1, 2, -1, -1}, 1, 2},
		{[]int{2, 1, -1, -2, -1, 1}, 1, 1},
		{[]int{-1, 1, 0}, 2, 3},
		{repeat(maxSample, 64), 0, 0},
		{slices.Repeat([]int{-maxSample, maxSample}, 32), 2, 3},
	} {
		powers := powersBy(c.s, 4)
		k, ok := impl.StrongestPart(c.s, 4)
		wantNumber(t, fmt.Sprint("four ", c.s, powers), k, ok, c.four)
		powers = powersBy(c.s, 6)
		k, ok = impl.StrongestPart(c.s, 6)
		wantNumber(t, fmt.Sprint("six ", c.s, powers), k, ok, c.six)
	}
}

func TestPromise9StrongestPart(t *testing.T) {
	check := func(s []int) {
		for _, parts := range []int{4, 6} {
			powers, want := powersBy(s, parts), 0
			for k, power := range powers {
				if power > powers[want] {
					want = k
				}
			}
			k, ok := impl.StrongestPart(s, parts)
			wantNumber(t, fmt.Sprint("strongest ", parts, s, powers), k, ok, want)
		}
	}
	for _, s := range toneSignals() {
		check(s)
	}
	eachList(7, []int{-1, 0, 2}, check)
}
