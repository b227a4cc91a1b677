package tests

import (
	"fmt"
	"slices"
	"testing"

	"loop.example/g01198/impl"
)

// Promise 5: constants have told periods, and their bits are balanced.

// constantsFor are all x in -m..m for small m, and some for others, the limits
// among them.
func constantsFor(m int) []int {
	list := []int{-m, 1 - m, -m / 2, -m / 3, -7, -1, 0, 1, 10, m / 4, m / 2, m - 1, m}
	if m <= 20 {
		list = nil
		for x := -m; x <= m; x++ {
			list = append(list, x)
		}
	}
	slices.Sort(list)
	return slices.Compact(list)
}

func TestPromise5ConstantBitsByHand(t *testing.T) {
	for _, c := range []struct {
		m, x, n int
		want    []int
	}{
		{4, 1, 8, []int{1, -1, 1, 1, -1, 1, -1, 1}},
		{4, -3, 8, []int{-1, -1, -1, 1, -1, -1, -1, -1}},
		{4, 2, 8, []int{1, 1, -1, 1, 1, 1, -1, 1}},
		{4, 0, 5, []int{1, -1, 1, -1, 1}},
		{4, -1, 2, []int{-1, 1}},
		{4, 1, 1, []int{1}},
		{4, 1, 0, nil},
		{1, 0, 3, []int{1, -1, 1}},
		{1, 1, impl.MaxBitList, repeat(1, impl.MaxBitList)},
		{1, -1, impl.MaxBitList, repeat(-1, impl.MaxBitList)},
		{impl.MaxScale, impl.MaxScale, 2, []int{1, 1}},
		{impl.MaxScale, -impl.MaxScale, 2, []int{-1, -1}},
		{impl.MaxScale, 1 - impl.MaxScale, impl.MaxBitList, repeat(-1, impl.MaxBitList)},
	} {
		list, ok := impl.ConstantBits(c.m, c.x, c.n)
		wantList(t, fmt.Sprint("bits ", c.m, c.x, c.n), list, ok, c.want)
	}
}

func TestPromise5ConstantBits(t *testing.T) {
	for _, m := range someScales {
		for _, x := range constantsFor(m) {
			for _, n := range []int{0, 1, 2, 63, 64, 65, impl.MaxBitList - 1, impl.MaxBitList} {
				want, _ := oneBitBy(m, repeat(x, n))
				list, ok := impl.ConstantBits(m, x, n)
				wantList(t, fmt.Sprint("bits ", m, x, n), list, ok, want)
			}
			want, ok := impl.OneBits(m, repeat(x, impl.MaxSignal))
			list, ok1 := impl.ConstantBits(m, x, impl.MaxSignal)
			wantList(t, fmt.Sprint("bits ", m, x), list, ok && ok1, want)
		}
	}
}

func TestPromise5ConstantsFail(t *testing.T) {
	for _, m := range badScales {
		for _, x := range []int{minInt, -1, 0, 1, impl.MaxScale, maxInt} {
			checkNoConstant(t, m, x)
		}
		list, ok := impl.ConstantsOf(m, nil)
		wantNoList(t, fmt.Sprint("constants ", m), list, ok)
		list, ok = impl.ConstantsOf(m, []int{1, -1})
		wantNoList(t, fmt.Sprint("constants ", m), list, ok)
	}
	for _, m := range someScales {
		for _, x := range []int{minInt, -m - 1, m + 1, maxInt} {
			checkNoConstant(t, m, x)
		}
		for _, n := range []int{minInt, -1, impl.MaxBitList + 1, maxInt} {
			list, ok := impl.ConstantBits(m, 1, n)
			wantNoList(t, fmt.Sprint("bits ", m, n), list, ok)
		}
		for _, bits := range badBits() {
			list, ok := impl.ConstantsOf(m, bits)
			wantNoList(t, fmt.Sprint("constants ", m, bits), list, ok)
		}
	}
}

func TestPromise5PeriodsByHand(t *testing.T) {
	for _, c := range []struct{ m, x, period, ones int }{
		{4, 1, 8, 5},
		{4, -1, 8, 3},
		{4, 0, 2, 1},
		{4, 2, 4, 3},
		{4, -2, 4, 1},
		{4, 3, 8, 7},
		{4, 4, 1, 1},
		{4, -4, 1, 0}, // x + m is 0
		{1, -1, 1, 0},
		{1, 0, 2, 1},
		{1, 1, 1, 1},
		{6, 3, 4, 3}, // 12 and 9
		{6, 2, 3, 2}, // 12 and 8
		{6, -3, 4, 1},
		{6, -2, 3, 1},
		{impl.MaxScale, impl.MaxScale, 1, 1},
		{impl.MaxScale, -impl.MaxScale, 1, 0},
		{impl.MaxScale, 0, 2, 1},
		{impl.MaxScale, 1, 2000, 1001},
		{impl.MaxScale, impl.MaxScale - 1, 2000, 1999},
		{impl.MaxScale, 1 - impl.MaxScale, 2000, 1},
		{impl.MaxScale, 250, 8, 5},
	} {
		n, ok := impl.PeriodOfConstant(c.m, c.x)
		wantNumber(t, fmt.Sprint("period ", c), n, ok, c.period)
		n, ok = impl.OnesInPeriod(c.m, c.x)
		wantNumber(t, fmt.Sprint("ones ", c), n, ok, c.ones)
	}
}

// constantPeriodBy walks until the state is 0 again, and counts the bits 1 on the way.
func constantPeriodBy(m int, x int) (int, int) {
	state, ones := 0, 0
	for n := 1; ; n++ {
		state += x
		if state >= 0 {
			state -= m
			ones++
		} else {
			state += m
		}
		if state == 0 {
			return n, ones
		}
	}
}

func TestPromise5Periods(t *testing.T) {
	for m := 1; m <= impl.MaxScale; m++ {
		for _, x := range constantsFor(m) {
			if x < -m || x > m {
				continue
			}
			period, ones := constantPeriodBy(m, x)
			n, ok := impl.PeriodOfConstant(m, x)
			wantNumber(t, fmt.Sprint("period ", m, x), n, ok, period)
			n, ok = impl.OnesInPeriod(m, x)
			wantNumber(t, fmt.Sprint("ones ", m, x), n, ok, ones)
		}
	}
}

// The bits of a constant come again behind a period, and have as many ones in
// it as told.
func TestPromise5PeriodsOfBits(t *testing.T) {
	for m := 1; m <= 20; m++ {
		for _, x := range constantsFor(m) {
			bits, ok := impl.ConstantBits(m, x, impl.MaxBitList)
			period, ok1 := impl.PeriodOfConstant(m, x)
			ones, ok2 := impl.OnesInPeriod(m, x)
			if !ok || !ok1 || !ok2 || period > impl.MaxBitList {
				t.Fatal("no period:", m, x)
			}
			wantList(t, fmt.Sprint("again ", m, x), bits[period:], true, bits[:len(bits)-period])
			wantNumber(t, fmt.Sprint("ones ", m, x), countOnes(bits[:period]), true, ones)
		}
	}
}

func TestPromise5ConstantsOfByHand(t *testing.T) {
	for _, c := range []struct {
		m          int
		bits, want []int
	}{
		{4, nil, []int{-4, -3, -2, -1, 0, 1, 2, 3, 4}},
		{4, []int{1}, []int{0, 1, 2, 3, 4}},
		{4, []int{-1}, []int{-4, -3, -2, -1}},
		{4, []int{1, 1}, []int{2, 3, 4}},
		{4, []int{1, -1}, []int{0, 1}},
		{4, []int{-1, 1}, []int{-2, -1}},
		{4, []int{1, -1, 1, 1, -1, 1, -1, 1}, []int{1}},
		{4, []int{1, 1, -1, -1}, nil},
		{4, []int{-1, -1, 1}, nil},
		{4, repeat(1, impl.MaxBitList), []int{4}},
		{4, repeat(-1, impl.MaxBitList), []int{-4}},
		{1, nil, []int{-1, 0, 1}},
		{1, []int{1}, []int{0, 1}},
		{1, []int{1, -1}, []int{0}},
		{1, []int{-1, 1}, nil},
		{impl.MaxScale, []int{1, 1, -1, -1}, nil},
		{impl.MaxScale, repeat(1, impl.MaxBitList), []int{995, 996, 997, 998, 999, 1000}},
		{impl.MaxScale, repeat(-1, impl.MaxBitList), []int{-1000, -999, -998, -997, -996}},
	} {
		list, ok := impl.ConstantsOf(c.m, c.bits)
		wantList(t, fmt.Sprint("constants ", c.m, c.bits), list, ok, c.want)
	}
}

func checkConstantsOf(t *testing.T, m int, bits []int) {
	t.Helper()
	var want []int
	for x := -m; x <= m; x++ {
		if made, _ := oneBitBy(m, repeat(x, len(bits))); slices.Equal(made, bits) {
			want = append(want, x)
		}
	}
	list, ok := impl.ConstantsOf(m, bits)
	wantList(t, fmt.Sprint("constants ", m, bits), list, ok, want)
}

func TestPromise5ConstantsOf(t *testing.T) {
	for m := 1; m <= 9; m++ {
		eachList(7, []int{1, -1}, func(bits []int) { checkConstantsOf(t, m, bits) })
	}
	for _, m := range []int{13, 100, 999, impl.MaxScale} {
		for _, bits := range goodBits() {
			checkConstantsOf(t, m, bits)
		}
		for _, x := range constantsFor(m) {
			for _, n := range []int{3, 20, 64, impl.MaxBitList} {
				bits, _ := oneBitBy(m, repeat(x, n))
				checkConstantsOf(t, m, bits)
				bits[n-1] = -bits[n-1]
				checkConstantsOf(t, m, bits)
			}
		}
	}
}

func TestPromise5IsBalancedByHand(t *testing.T) {
	for _, c := range []struct {
		bits []int
		want bool
	}{
		{nil, true},
		{[]int{1}, true},
		{[]int{-1}, true},
		{[]int{1, -1}, true},
		{[]int{-1, -1, 1}, true},
		{[]int{1, 1, -1, 1, 1}, true},
		{[]int{1, -1, 1, -1, -1, 1, -1, 1, -1}, true},
		{[]int{1, 1, -1, -1}, false},       // 2 and 0 of 2
		{[]int{1, 1, 1, -1, 1, -1}, false}, // 3 and 1 of 3
		{[]int{1, -1, 1, -1, 1, 1, 1}, false},
		{[]int{1, 1, -1, 1, -1, 1, -1, 1, 1}, true},
		{[]int{1, 1, -1, 1, -1, 1, -1, -1}, false},
		{[]int{1, 1, -1, 1, 1, -1, 1, -1, 1, -1}, false}, // 4 and 2 of 5 alone
		{[]int{1, 1, -1, 1, 1, -1, 1, -1, 1, 1}, true},
		{repeat(1, impl.MaxBitList), true},
		{append(repeat(1, impl.MaxBitList-1), -1), true},
		{append(repeat(1, impl.MaxBitList-2), -1, -1), false},
		{append([]int{-1}, append(repeat(1, impl.MaxBitList-2), -1)...), true},
		{slices.Concat([]int{-1, 1, -1}, repeat(1, impl.MaxBitList-3)), false},
	} {
		is, ok := impl.IsBalancedList(c.bits)
		wantFlag(t, fmt.Sprint("balanced ", c.bits), is, ok, c.want)
	}
}

// isBalancedBy counts the bits 1 by the definition alone.
func isBalancedBy(bits []int) bool {
	for k := 1; k <= len(bits); k++ {
		least, greatest := k, 0
		for i := 0; i+k <= len(bits); i++ {
			count := countOnes(bits[i : i+k])
			least, greatest = min(least, count), max(greatest, count)
		}
		if greatest-least > 1 {
			return false
		}
	}
	return true
}

func checkBalanced(t *testing.T, bits []int) {
	t.Helper()
	is, ok := impl.IsBalancedList(bits)
	wantFlag(t, fmt.Sprint("balanced ", bits), is, ok, isBalancedBy(bits))
}

func TestPromise5IsBalancedList(t *testing.T) {
	eachList(11, []int{1, -1}, func(bits []int) { checkBalanced(t, bits) })
	for _, bits := range goodBits() {
		checkBalanced(t, bits)
	}
}

// Bits of constants are balanced; with one of them changed they mostly are not.
func TestPromise5ConstantBitsAreBalanced(t *testing.T) {
	for _, m := range someScales {
		for _, x := range constantsFor(m) {
			bits, _ := impl.ConstantBits(m, x, impl.MaxBitList)
			is, ok := impl.IsBalancedList(bits)
			wantFlag(t, fmt.Sprint("balanced ", m, x), is, ok, true)
			bits = bits[:60]
			bits[m%60] *= -1
			checkBalanced(t, bits)
		}
	}
}

func TestPromise5MovingSumsByHand(t *testing.T) {
	bits := []int{1, 1, -1, 1, -1, -1}
	for k, want := range [][]int{
		1: bits,
		2: {2, 0, 0, 0, -2},
		3: {1, 1, -1, -1},
		4: {2, 0, -2},
		5: {1, -1},
		6: {0},
	} {
		if k > 0 {
			list, ok := impl.MovingSums(bits, k)
			wantList(t, fmt.Sprint("sums ", k), list, ok, want)
		}
	}
	list, ok := impl.MovingSums([]int{-1}, 1)
	wantList(t, "sums", list, ok, []int{-1})
	list, ok = impl.MovingSums(repeat(-1, impl.MaxBitList), impl.MaxBitList)
	wantList(t, "sums", list, ok, []int{-impl.MaxBitList})
}

func TestPromise5MovingSums(t *testing.T) {
	for _, bits := range goodBits() {
		for k := 1; k <= len(bits); k++ {
			var want []int
			for i := 0; i+k <= len(bits); i++ {
				want = append(want, total(bits[i:i+k]))
			}
			list, ok := impl.MovingSums(bits, k)
			wantList(t, fmt.Sprint("sums ", bits, k), list, ok, want)
		}
		for _, k := range []int{minInt, -1, 0, len(bits) + 1, maxInt} {
			list, ok := impl.MovingSums(bits, k)
			wantNoList(t, fmt.Sprint("sums ", bits, k), list, ok)
		}
	}
}

func TestPromise5RunsOf(t *testing.T) {
	for _, c := range []struct{ bits, want []int }{
		{nil, nil},
		{[]int{1}, []int{1}},
		{[]int{-1}, []int{1}},
		{[]int{1, 1}, []int{2}},
		{[]int{1, -1}, []int{1, 1}},
		{[]int{-1, -1, 1, -1, -1, -1}, []int{2, 1, 3}},
		{[]int{1, -1, 1, 1, -1, 1, -1, 1}, []int{1, 1, 2, 1, 1, 1, 1}},
		{repeat(1, impl.MaxBitList), []int{impl.MaxBitList}},
		{slices.Repeat([]int{1, -1}, impl.MaxBitList/2), repeat(1, impl.MaxBitList)},
		{slices.Repeat([]int{-1, 1, 1}, 60), slices.Repeat([]int{1, 2}, 60)},
	} {
		list, ok := impl.RunsOf(c.bits)
		wantList(t, fmt.Sprint("runs ", c.bits), list, ok, c.want)
	}
}

// Runs of the told lengths, with the bits 1 and -1 in turn, are the bits again.
func TestPromise5RunsMakeTheBitsAgain(t *testing.T) {
	check := func(bits []int) {
		lengths, ok := impl.RunsOf(bits)
		var again []int
		for i, length := range lengths {
			bit := bits[0]
			if i%2 == 1 {
				bit = -bit
			}
			if length < 1 {
				t.Error("an empty run:", bits)
				return
			}
			again = append(again, repeat(bit, length)...)
		}
		wantList(t, fmt.Sprint("runs ", lengths), again, ok, bits)
	}
	eachList(9, []int{1, -1}, check)
	for _, bits := range goodBits() {
		check(bits)
	}
}

func TestPromise5BitsFail(t *testing.T) {
	for _, bits := range badBits() {
		what := fmt.Sprint(bits)
		is, ok := impl.IsBalancedList(bits)
		wantNoFlag(t, "balanced "+what, is, ok)
		for _, k := range []int{1, len(bits), 0, len(bits) + 1} {
			list, ok := impl.MovingSums(bits, k)
			wantNoList(t, fmt.Sprint("sums ", what, k), list, ok)
		}
		list, ok := impl.RunsOf(bits)
		wantNoList(t, "runs "+what, list, ok)
	}
}
