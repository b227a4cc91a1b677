package tests

import (
	"fmt"
	"slices"
	"testing"

	"loop.example/g01198/impl"
)

// Promise 4: pairs come to cycles, and turnable filters have all pairs on them.

var fibonacci = second(1, 1, 0, impl.RoundDown, wrap(2))

var pairSamples = []int{0, 1, -3, 40, impl.MaxSample, -impl.MaxSample}

// pairScan is what all pairs of a filter do with one sample, by the definition alone.
type pairScan struct {
	pairs  [][2]int
	next   map[[2]int][2]int
	coming map[[2]int][][2]int
	cycles [][]int
	onSome map[[2]int]bool
}

func scanPairs(t *testing.T, f impl.Second, x int) pairScan {
	t.Helper()
	scan := pairScan{next: map[[2]int][2]int{}, coming: map[[2]int][][2]int{}, onSome: map[[2]int]bool{}}
	least, greatest := rangeOf(f.Word)
	for y := least; y <= greatest; y++ {
		for z := least; z <= greatest; z++ {
			p := [2]int{y, z}
			_, q := steppedPair(t, f, p, x)
			scan.pairs = append(scan.pairs, p)
			scan.next[p] = q
			scan.coming[q] = append(scan.coming[q], p)
		}
	}
	scan.findCycles()
	return scan
}

// findCycles walks from each pair, marks the walk, and looks where it ends: at
// a pair of its own is a new cycle.
func (scan *pairScan) findCycles() {
	walks := map[[2]int]int{}
	for i, p := range scan.pairs {
		for walks[p] == 0 {
			walks[p] = i + 1
			p = scan.next[p]
		}
		if walks[p] != i+1 {
			continue
		}
		var cycle []int
		for ; !scan.onSome[p]; p = scan.next[p] {
			scan.onSome[p] = true
			cycle = append(cycle, p[0])
		}
		scan.cycles = append(scan.cycles, firstTurn(cycle))
	}
	slices.SortFunc(scan.cycles, slices.Compare)
}

func (scan *pairScan) isTurnable() bool {
	for _, p := range scan.pairs {
		if len(scan.coming[p]) != 1 {
			return false
		}
	}
	return true
}

// scanSeconds are the filters of which all pairs are looked at: fewer with
// longer words.
func scanSeconds() []impl.Second {
	var filters []impl.Second
	for _, c := range []struct {
		w     impl.Word
		every int
	}{{hold(2), 3}, {wrap(2), 2}, {wrap(3), 5}, {hold(3), 7}, {hold(4), 17}, {wrap(4), 17}, {hold(5), 53}, {wrap(5), 47}, {hold(impl.MaxPairBits), 101}, {wrap(impl.MaxPairBits), 97}} {
		for i, f := range secondsOf(c.w) {
			if i%c.every == 0 {
				filters = append(filters, f)
			}
		}
	}
	for _, mode := range modes {
		for _, w := range []impl.Word{wrap(3), hold(4), wrap(5)} {
			filters = append(filters, second(7, -8, 3, mode, w), second(-3, 2, 1, mode, w), second(100, -61, 6, mode, w), second(-15, -15, 4, mode, w))
		}
	}
	return filters
}

func TestPromise4PairCyclesByHand(t *testing.T) {
	for _, c := range []struct {
		f    impl.Second
		x    int
		want [][]int
	}{
		// The least number comes twice, and the one behind it decides.
		{fibonacci, 0, [][]int{{-2, -2, 0}, {-2, -1, 1, 0, 1, 1}, {-2, 1, -1, 0, -1, -1}, {0}}},
		{second(1, 0, 1, impl.RoundDown, hold(4)), 0, [][]int{{-1}, {0}}},
		{second(1, 0, 1, impl.RoundNear, hold(4)), 0, [][]int{{0}, {1}}},
		{second(1, 0, 1, impl.RoundZero, hold(4)), 0, [][]int{{0}}},
		{second(0, 1, 1, impl.RoundDown, hold(4)), 0, [][]int{{-1}, {-1, 0}, {0}}},
		{second(0, 1, 1, impl.RoundNear, hold(4)), 0, [][]int{{0}, {0, 1}, {1}}},
		{second(0, 1, 1, impl.RoundZero, hold(4)), 0, [][]int{{0}}},
		{second(0, 0, 0, impl.RoundDown, hold(4)), 5, [][]int{{5}}},
		{second(0, 0, 10, impl.RoundNear, wrap(4)), 9, [][]int{{-7}}},
		{second(0, 0, 0, impl.RoundZero, hold(6)), -impl.MaxSample, [][]int{{-32}}},
		{second(0, 1, 0, impl.RoundDown, hold(2)), 0, [][]int{{-2}, {-2, -1}, {-2, 0}, {-2, 1}, {-1}, {-1, 0}, {-1, 1}, {0}, {0, 1}, {1}}},
		{second(0, 1, 0, impl.RoundDown, hold(2)), 1, [][]int{{1}}},
		{second(0, 1, 0, impl.RoundDown, wrap(2)), 1, [][]int{{-2, -2, -1, -1, 0, 0, 1, 1}, {-2, 0, -1, 1, 0, -2, 1, -1}}},
		{second(0, -1, 0, impl.RoundDown, hold(2)), 0, [][]int{{-1, -1, 1, 1}, {-1, 0, 1, 0}, {0}}},
		{second(0, -1, 0, impl.RoundDown, wrap(2)), 0, [][]int{{-2}, {-2, -1, -2, 1}, {-2, 0}, {-1, -1, 1, 1}, {-1, 0, 1, 0}, {0}}},
		{second(1, -1, 0, impl.RoundDown, hold(2)), 0, [][]int{{-1, -1, 0, 1, 1, 0}, {0}}},
	} {
		lists, ok := impl.PairCycles(c.f, c.x)
		wantLists(t, fmt.Sprint("cycles ", c.f, c.x), lists, ok, c.want)
	}
}

func TestPromise4ScansOfAllPairs(t *testing.T) {
	turnable := map[bool]int{}
	for i, f := range scanSeconds() {
		for _, x := range []int{0, pairSamples[1+i%(len(pairSamples)-1)]} {
			what := fmt.Sprint(f, x)
			scan := scanPairs(t, f, x)
			lists, ok := impl.PairCycles(f, x)
			wantLists(t, "cycles "+what, lists, ok, scan.cycles)
			n, ok := impl.CountLasting(f, x)
			wantNumber(t, "lasting "+what, n, ok, len(scan.onSome))
			is, ok := impl.IsTurnable(f, x)
			wantFlag(t, "turnable "+what, is, ok, scan.isTurnable())
			turnable[is]++
			if x == 0 {
				n, ok := impl.PairBand(f)
				wantNumber(t, "band "+what, n, ok, bandOf(scan.cycles))
			}
		}
	}
	if turnable[true] < 20 || turnable[false] < 20 {
		t.Error("too few filters of one kind:", turnable)
	}
}

// All pairs come to cycles: each pair is, behind the steps of PairPeriod and no
// sooner, on one of the cycles, which CycleOfPair tells; and pairs before are
// those of which a step makes the pair.
func TestPromise4AllPairsComeToCycles(t *testing.T) {
	for i, f := range scanSeconds() {
		if f.Word.Bits > 4 && i%3 != 0 {
			continue
		}
		x := pairSamples[i%len(pairSamples)]
		scan := scanPairs(t, f, x)
		every := 1 + len(scan.pairs)/50
		for j := 0; j < len(scan.pairs); j += every {
			checkPairComesToCycle(t, f, scan.pairs[j], x, scan)
		}
	}
}

func checkPairComesToCycle(t *testing.T, f impl.Second, p [2]int, x int, scan pairScan) {
	t.Helper()
	what := fmt.Sprint(f, p, x)
	steps, q := 0, p
	for !scan.onSome[q] {
		q = scan.next[q]
		steps++
	}
	cycle, ok := impl.CycleOfPair(f, p[0], p[1], x)
	if _, found := slices.BinarySearchFunc(scan.cycles, cycle, slices.Compare); !ok || !found || !slices.Contains(cycle, q[0]) {
		t.Error("no such cycle:", what, cycle)
	}
	begin, more, ok := impl.PairPeriod(f, p[0], p[1], x)
	wantTwo(t, "period "+what, begin, more, ok, steps, len(cycle))
	var before []int
	for _, from := range scan.coming[p] {
		before = append(before, from[1])
	}
	list, ok := impl.PairsBefore(f, p[0], p[1], x)
	wantList(t, "before "+what, list, ok, before)
}

// Turnable filters have all pairs on cycles, and no others have.
func TestPromise4TurnableFiltersHaveAllPairsOnCycles(t *testing.T) {
	for i, f := range scanSeconds() {
		x := pairSamples[i%len(pairSamples)]
		is, ok := impl.IsTurnable(f, x)
		lasting, ok1 := impl.CountLasting(f, x)
		cycles, ok2 := impl.PairCycles(f, x)
		if !ok || !ok1 || !ok2 || is != (lasting == 1<<(2*f.Word.Bits)) {
			t.Error("turnable and lasting:", f, x, is, lasting)
		}
		on := 0
		for _, cycle := range cycles {
			on += len(cycle)
		}
		if on != lasting {
			t.Error("on cycles and lasting:", f, x, on, lasting)
		}
	}
}

func TestPromise4TurnableByHand(t *testing.T) {
	for _, c := range []struct {
		a, b, shift      int
		w                impl.Word
		x                int
		down, near, zero bool
	}{
		{0, -2, 1, wrap(4), 0, true, true, true},
		{0, -2, 1, wrap(4), impl.MaxSample, true, true, true},
		{0, -2, 1, hold(4), 0, false, false, false},
		{0, 1, 0, hold(4), 0, true, true, true},
		{0, 1, 0, hold(4), 1, false, false, false},
		{0, 1, 0, wrap(4), 1, true, true, true},
		{0, 1024, 10, hold(impl.MaxPairBits), 0, true, true, true},
		{0, 1024, 10, hold(impl.MaxPairBits), -1, false, false, false},
		{0, -1024, 10, wrap(impl.MaxPairBits), -impl.MaxSample, true, true, true},
		{1, 1, 0, wrap(2), 0, true, true, true},
		{1, 1, 0, hold(2), 0, false, false, false},
		{5, 3, 0, wrap(5), 7, true, true, true},
		{5, 2, 0, wrap(5), 7, false, false, false},
		{1, 0, 0, wrap(4), 0, false, false, false},
		{0, 0, 0, wrap(2), 0, false, false, false},
		// A half is on the other side behind 0: 1 / 2 and -1 / 2 both become 0.
		{1, 2, 1, wrap(4), 0, true, true, false},
		{1, -8, 3, wrap(4), 0, true, true, false},
		{1, 1, 1, wrap(2), 0, false, false, false},
	} {
		for mode, want := range []bool{c.down, c.near, c.zero} {
			is, ok := impl.IsTurnable(second(c.a, c.b, c.shift, mode, c.w), c.x)
			wantFlag(t, fmt.Sprint("turnable ", c, mode), is, ok, want)
		}
	}
}

func TestPromise4LastingAndBandByHand(t *testing.T) {
	for _, c := range []struct {
		a, b, shift   int
		mode          int
		w             impl.Word
		lasting, band int
	}{
		{1, 1, 0, impl.RoundDown, wrap(2), 16, 2},
		{0, -2, 1, impl.RoundDown, wrap(4), 256, 8},
		{0, -2, 1, impl.RoundDown, hold(4), 225, 7},
		{0, 1, 0, impl.RoundDown, hold(impl.MaxPairBits), 4096, 32},
		{0, -1024, 10, impl.RoundNear, hold(impl.MaxPairBits), 3969, 31},
		{1, 0, 1, impl.RoundDown, hold(4), 2, 1},
		{1, 0, 1, impl.RoundNear, hold(4), 2, 1},
		{1, 0, 1, impl.RoundZero, hold(4), 1, 0},
		{0, 1, 1, impl.RoundDown, hold(4), 4, 1},
		{0, 0, 0, impl.RoundDown, hold(2), 1, 0},
		{1, 0, 0, impl.RoundDown, hold(3), 8, 4},
		{1, -1, 0, impl.RoundDown, hold(2), 7, 1},
	} {
		f := second(c.a, c.b, c.shift, c.mode, c.w)
		n, ok := impl.CountLasting(f, 0)
		wantNumber(t, fmt.Sprint("lasting ", f), n, ok, c.lasting)
		n, ok = impl.PairBand(f)
		wantNumber(t, fmt.Sprint("band ", f), n, ok, c.band)
	}
	n, ok := impl.CountLasting(second(1, 0, 0, impl.RoundDown, hold(3)), 1)
	wantNumber(t, "lasting with a sample", n, ok, 1)
}

func TestPromise4PairPeriodByHand(t *testing.T) {
	half := second(1, 0, 1, impl.RoundDown, hold(4))
	for _, c := range []struct {
		f           impl.Second
		y, z, x     int
		begin, more int
		cycle       []int
	}{
		{second(0, -2, 1, impl.RoundNear, wrap(4)), 3, 1, 0, 0, 4, []int{-3, 1, 3, -1}},
		{second(0, -2, 1, impl.RoundNear, wrap(4)), 1, 3, 0, 0, 4, []int{-3, -1, 3, 1}},
		{second(0, -2, 1, impl.RoundNear, wrap(4)), -8, -8, 0, 0, 1, []int{-8}},
		{second(0, -2, 1, impl.RoundNear, hold(4)), -8, -8, 0, 2, 4, []int{-7, -7, 7, 7}},
		{half, 7, 5, 0, 4, 1, []int{0}},
		{half, -8, -8, 0, 4, 1, []int{-1}},
		{half, 0, 0, 0, 0, 1, []int{0}},
		{half, 0, 5, 0, 1, 1, []int{0}},
		{fibonacci, 1, 0, 0, 0, 6, []int{-2, -1, 1, 0, 1, 1}},
		{fibonacci, -1, 0, 0, 0, 6, []int{-2, 1, -1, 0, -1, -1}},
		{fibonacci, 0, -2, 0, 0, 3, []int{-2, -2, 0}},
		{second(0, 0, 0, impl.RoundDown, hold(16)), 4, 5, impl.MaxSample, 2, 1, []int{32767}},
		{second(0, 0, 0, impl.RoundDown, hold(16)), -32768, -32767, -impl.MaxSample, 1, 1, []int{-32768}},
		{second(0, 0, 0, impl.RoundDown, wrap(16)), -31072, -31072, impl.MaxSample, 0, 1, []int{-31072}},
		{second(1024, 0, 10, impl.RoundDown, wrap(14)), 5, 4, 1, 0, 16384, nil},
		{second(1024, 0, 10, impl.RoundDown, wrap(14)), 5, 5, 1, 1, 16384, nil},
		{second(0, 1, 0, impl.RoundDown, wrap(13)), 5, 4, 1, 0, 16384, nil},
	} {
		what := fmt.Sprint(c)
		a, b, ok := impl.PairPeriod(c.f, c.y, c.z, c.x)
		wantTwo(t, "period "+what, a, b, ok, c.begin, c.more)
		list, ok := impl.CycleOfPair(c.f, c.y, c.z, c.x)
		if c.cycle == nil {
			wantNumber(t, "length of cycle "+what, len(list), ok, c.more)
		} else {
			wantList(t, "cycle "+what, list, ok, c.cycle)
		}
	}
}

func TestPromise4PairPeriods(t *testing.T) {
	for _, w := range goodWords() {
		for i, f := range secondsOf(w) {
			if i%7 != 0 || i%5 != 0 && w.Bits > 6 {
				continue
			}
			for j, p := range somePairs(w, i) {
				x := pairSamples[(i+j)%len(pairSamples)]
				checkPairPeriod(t, f, p, x)
			}
		}
	}
}

func checkPairPeriod(t *testing.T, f impl.Second, p [2]int, x int) {
	t.Helper()
	what := fmt.Sprint(f, p, x)
	way, first, is := pairWayBy(t, f, p, x)
	a, b, ok := impl.PairPeriod(f, p[0], p[1], x)
	list, ok1 := impl.CycleOfPair(f, p[0], p[1], x)
	if is {
		wantTwo(t, "period "+what, a, b, ok, first, len(way)-first)
		wantList(t, "cycle "+what, list, ok1, firstTurn(lastNumbers(way[first:])))
	} else {
		wantNoTwo(t, "period "+what, a, b, ok)
		wantNoList(t, "cycle "+what, list, ok1)
	}
}

// Periods whose steps are together just 20000, and one more; a step on the way
// to a cycle makes them one less.
func TestPromise4PairPeriodAtTheLimit(t *testing.T) {
	count, countTwo := second(1024, 0, 10, impl.RoundNear, hold(16)), second(0, 1, 0, impl.RoundZero, hold(15))
	for _, c := range []struct {
		f           impl.Second
		y, z, x     int
		begin, more int
	}{
		{count, 12769, 5, 1, 19999, 1},
		{count, 12768, 5, 1, 0, 0},
		{count, -12770, 0, -1, 19999, 1},
		{count, -12769, 0, -1, 0, 0},
		{count, -32768, 0, 1, 0, 0},
		{countTwo, 6384, 6383, 1, 19999, 1},
		{countTwo, 6383, 6383, 1, 0, 0},
		{second(65, 591, 2, impl.RoundNear, wrap(14)), 7530, 3294, -12, 3712, 16288},
		{second(65, 591, 2, impl.RoundNear, wrap(14)), 3294, 1463, -12, 0, 0},
		{second(-113, 858, 8, impl.RoundDown, wrap(13)), -547, -3588, 24, 4509, 15491},
		{second(-113, 858, 8, impl.RoundDown, wrap(13)), -3588, -3087, 24, 0, 0},
		{second(590, 543, 4, impl.RoundZero, wrap(14)), -7966, -4678, -57, 13275, 6725},
		{second(590, 543, 4, impl.RoundZero, wrap(14)), -4678, 2436, -57, 0, 0},
		{second(-251, -728, 5, impl.RoundDown, wrap(14)), -2327, 5408, 6, 19919, 81},
		{second(-251, -728, 5, impl.RoundDown, wrap(14)), 5408, 2559, 6, 0, 0},
		{second(-497, 256, 8, impl.RoundDown, wrap(8)), -59, -83, -5, 0, 20000},
		{second(-198, 32, 5, impl.RoundNear, wrap(8)), -36, -8, 7, 0, 20000},
		{second(826, 512, 9, impl.RoundDown, wrap(9)), -82, -55, -5, 0, 20000},
		{second(-740, 32, 5, impl.RoundDown, wrap(8)), -35, -68, 5, 0, 0},
		{second(688, 512, 9, impl.RoundNear, wrap(8)), -16, -116, 5, 0, 0},
		{second(0, 1, 0, impl.RoundDown, wrap(14)), 5, 4, 1, 0, 0},
		{second(1024, 0, 10, impl.RoundDown, wrap(15)), 5, 4, 1, 0, 0},
	} {
		what, p := fmt.Sprint(c), [2]int{c.y, c.z}
		a, b, ok := impl.PairPeriod(c.f, c.y, c.z, c.x)
		if c.more == 0 {
			wantNoTwo(t, "period "+what, a, b, ok)
		} else {
			wantTwo(t, "period "+what, a, b, ok, c.begin, c.more)
		}
		checkPairPeriod(t, c.f, p, c.x)
		_, next := steppedPair(t, c.f, p, c.x)
		checkPairPeriod(t, c.f, next, c.x)
	}
}

func TestPromise4PairsBeforeByHand(t *testing.T) {
	all := []int{-8, -7, -6, -5, -4, -3, -2, -1, 0, 1, 2, 3, 4, 5, 6, 7}
	for _, c := range []struct {
		f       impl.Second
		y, z, x int
		want    []int
	}{
		{second(1, 1, 1, impl.RoundDown, hold(4)), 2, 3, 0, []int{1, 2}},
		{second(1, 1, 1, impl.RoundNear, hold(4)), 2, 3, 0, []int{0, 1}},
		{second(1, 1, 1, impl.RoundZero, hold(4)), 2, 3, 0, []int{1, 2}},
		{second(1, 1, 1, impl.RoundDown, hold(4)), 0, 0, 0, []int{0, 1}},
		{second(1, 1, 1, impl.RoundNear, hold(4)), 0, 0, 0, []int{-1, 0}},
		{second(1, 1, 1, impl.RoundZero, hold(4)), 0, 0, 0, []int{-1, 0, 1}},
		{second(1, 1, 1, impl.RoundDown, hold(4)), 7, 3, 4, []int{3, 4, 5, 6, 7}},
		{second(1, 1, 1, impl.RoundDown, wrap(4)), 7, 3, 4, []int{3, 4}},
		{second(1, 1, 1, impl.RoundDown, wrap(4)), -8, 3, 4, []int{5, 6}},
		{second(0, -2, 1, impl.RoundDown, wrap(4)), 3, -1, 0, []int{-3}},
		{second(0, -2, 1, impl.RoundDown, wrap(4)), -8, 5, 0, []int{-8}},
		{second(0, -1, 0, impl.RoundDown, hold(4)), 7, 5, 0, []int{-8, -7}},
		{second(0, -1, 0, impl.RoundDown, hold(4)), -8, 5, 0, nil},
		{second(0, 2, 0, impl.RoundDown, wrap(4)), 2, 5, 0, []int{-7, 1}},
		{second(0, 2, 0, impl.RoundDown, wrap(4)), 1, 5, 0, nil},
		{second(2, 0, 0, impl.RoundDown, hold(4)), 6, 3, 0, all},
		{second(2, 0, 0, impl.RoundDown, hold(4)), 5, 3, 0, nil},
		{second(5, 6, 0, impl.RoundDown, hold(4)), -8, 3, -impl.MaxSample, all},
		{second(5, 6, 0, impl.RoundDown, hold(4)), 7, 3, impl.MaxSample, all},
	} {
		list, ok := impl.PairsBefore(c.f, c.y, c.z, c.x)
		wantList(t, fmt.Sprint("before ", c), list, ok, c.want)
	}
}

func TestPromise4PairsBefore(t *testing.T) {
	for _, w := range goodWords() {
		least, greatest := rangeOf(w)
		for i, f := range secondsOf(w) {
			if i%5 != 0 {
				continue
			}
			x := pairSamples[i%len(pairSamples)]
			from := somePairs(w, i)[i%3]
			_, p := steppedPair(t, f, from, x)
			what := fmt.Sprint("before ", f, p, x)
			list, ok := impl.PairsBefore(f, p[0], p[1], x)
			if w.Bits > 10 {
				wantNoList(t, what, list, ok)
				continue
			}
			var want []int
			for u := least; u <= greatest; u++ {
				if _, q := steppedPair(t, f, [2]int{p[1], u}, x); q == p {
					want = append(want, u)
				}
			}
			wantList(t, what, list, ok, want)
		}
	}
}

// Where all pairs are looked at, MaxPairBits bits are just not too many; for
// pairs before 10 are, and a period is found in any word.
func TestPromise4ScansOfPairsNeedFewBits(t *testing.T) {
	for _, w := range goodWords() {
		f := second(1, 0, 1, impl.RoundDown, w)
		what := fmt.Sprint(w)
		if w.Bits <= impl.MaxPairBits {
			lists, ok := impl.PairCycles(f, 0)
			wantLists(t, "cycles "+what, lists, ok, [][]int{{-1}, {0}})
			n, ok := impl.CountLasting(f, 0)
			wantNumber(t, "lasting "+what, n, ok, 2)
			n, ok = impl.PairBand(f)
			wantNumber(t, "band "+what, n, ok, 1)
			is, ok := impl.IsTurnable(second(0, 1, 0, impl.RoundDown, w), 0)
			wantFlag(t, "turnable "+what, is, ok, true)
		} else {
			checkNoPairScan(t, f, 0)
			checkNoPairScan(t, second(0, 1, 0, impl.RoundDown, w), 0)
			n, ok := impl.PairBand(f)
			wantNoNumber(t, "band "+what, n, ok)
		}
		list, ok := impl.PairsBefore(second(0, 1, 0, impl.RoundDown, w), -1, 0, 0)
		wantListIf(t, "before "+what, list, ok, []int{-1}, w.Bits <= 10)
		a, b, ok := impl.PairPeriod(f, -1<<(w.Bits-1), 0, 0)
		wantTwo(t, "period "+what, a, b, ok, w.Bits, 1)
		list, ok = impl.CycleOfPair(f, -1<<(w.Bits-1), 0, 0)
		wantList(t, "cycle "+what, list, ok, []int{-1})
	}
}

func TestPromise4ScansOfPairsFail(t *testing.T) {
	for _, f := range badSeconds() {
		n, ok := impl.PairBand(f)
		wantNoNumber(t, fmt.Sprint("band ", f), n, ok)
		for _, x := range []int{0, 1} {
			checkNoPairScan(t, f, x)
		}
	}
	for _, w := range []impl.Word{hold(2), wrap(2), hold(4), wrap(5), hold(impl.MaxPairBits), wrap(impl.MaxPairBits)} {
		for _, x := range badSamples {
			checkNoPairScan(t, second(1, -1, 1, impl.RoundDown, w), x)
			checkNoPairScan(t, second(0, 1, 0, impl.RoundNear, w), x)
		}
	}
}
