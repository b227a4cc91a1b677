package tests

import (
	"fmt"
	"math/big"
	"slices"
	"testing"

	"loop.example/g01198/impl"
)

// Promise 7: exact cascades do not depend on the order.

// scaling is a filter that times by a number alone, without a shift.
func scaling(a int) impl.First {
	return first(a, 0, impl.RoundDown, hold(16))
}

// halving is a filter that has a shift alone.
func halving(shift int) impl.First {
	return first(0, shift, impl.RoundDown, hold(16))
}

func TestPromise7ExactByHand(t *testing.T) {
	for _, c := range []struct {
		parts   []impl.First
		s, want []int
	}{
		{exampleParts(impl.RoundDown), []int{3, 0, 0}, []int{12, 0, 48}},
		{exampleParts(impl.RoundNear), []int{3, 0, 0}, []int{12, 0, 48}},
		{exampleParts(impl.RoundDown), []int{-3}, []int{-12}},
		{exampleParts(impl.RoundZero), nil, nil},
		{chain(first(1, 1, impl.RoundDown, hold(2))), []int{1, 1, 1}, []int{2, 6, 14}},
		{chain(first(1, 1, impl.RoundDown, wrap(4)), first(1, 2, impl.RoundZero, hold(4))), []int{1, 0, 0}, []int{8, 48, 224}},
		{chain(sums(hold(2)), sums(wrap(2))), []int{5, 0, -1}, []int{5, 10, 14}},
		{chain(sums(hold(2)), sums(wrap(2)), sums(hold(2)), sums(hold(2))), []int{1, 0, 0, 0}, []int{1, 4, 10, 20}},
		{chain(halving(1), halving(2), halving(1)), []int{3, -1, 4}, []int{48, -256, 16384}},
		{chain(scaling(-3), scaling(2)), []int{1, 0, 0}, []int{1, -1, 7}},
	} {
		what := fmt.Sprint("exact ", c)
		list, ok := impl.ExactChain(c.parts, c.s)
		wantList(t, what, list, ok, c.want)
		back := slices.Clone(c.parts)
		slices.Reverse(back)
		list, ok = impl.ExactChain(back, c.s)
		wantList(t, what+" backwards", list, ok, c.want)
	}
}

// Exact numbers, of the last part and of one before it, that just are numbers of
// chapter 1, and that just are not.
func TestPromise7ExactAtTheLimits(t *testing.T) {
	thousand, minus := scaling(1000), scaling(-1)
	up := []int{1000, 1000000, 1000000000, impl.MaxNumber}
	down := []int{-1000, -1000000, -1000000000, -impl.MaxNumber}
	for _, c := range []struct {
		parts   []impl.First
		s, want []int
	}{
		{chain(thousand), []int{1000, 0, 0, 0}, up},
		{chain(thousand), []int{-1000, 0, 0, 0}, down},
		{chain(thousand), []int{1000, 0, 0, 1}, nil},
		{chain(thousand), []int{-1000, 0, 0, -1}, nil},
		{chain(thousand), []int{1000, 0, 0, 0, 0}, nil},
		{chain(thousand, none(hold(4))), []int{1000, 0, 0, 0}, up},
		{chain(none(hold(4)), thousand), []int{-1000, 0, 0, 0}, down},
		{chain(none(hold(4)), none(hold(4)), none(hold(4)), thousand), []int{1000, 0, 0, 0}, up},
		{chain(none(hold(4)), none(hold(4)), none(hold(4)), thousand), []int{1000, 0, 0, 1}, nil},
		// In the last part, and not before it.
		{chain(none(hold(4)), thousand), []int{1000, 0, 0, 1}, nil},
		// In a part before the last, whose number is less: it is the same in the other order.
		{chain(thousand, minus), []int{1000, 0, 0, 0}, []int{1000, 999000, 999001000, 999000999000}},
		{chain(thousand, minus), []int{1000, 0, 0, 1}, nil},
		{chain(thousand, minus), []int{-1000, 0, 0, -1}, nil},
		{chain(minus, thousand), []int{1000, 0, 0, 1}, []int{1000, 999000, 999001000, 999000999001}},
		{chain(minus, thousand), []int{-1000, 0, 0, -1}, []int{-1000, -999000, -999001000, -999000999001}},
		{chain(none(hold(4)), thousand, minus, none(hold(4))), []int{1000, 0, 0, 1}, nil},
		{chain(thousand, none(hold(4)), none(hold(4)), minus), []int{1000, 0, 0, 1}, nil},
		{chain(none(hold(4)), minus, none(hold(4)), thousand), []int{1000, 0, 0, 1}, []int{1000, 999000, 999001000, 999000999001}},
		// One number is too great, and those behind it would not be.
		{chain(halving(3), halving(2)), []int{0, 0, 0, 0, 29802, 0}, []int{0, 0, 0, 0, 999989182464, 0}},
		{chain(halving(3), halving(2)), []int{0, 0, 0, 0, 29803, 0}, nil},
		{chain(halving(3), halving(2)), []int{0, 0, 0, 0, -100000, 0}, nil},
		// 2^(n shift) times a sample may be no number, as long as the exact numbers are.
		{chain(first(1024, 10, impl.RoundDown, hold(16))), []int{0, 99000, -98100}, []int{0, 103809024000, 966367641600}},
		{chain(scaling(10), halving(10), halving(3)), []int{0, 10000, -impl.MaxSample}, []int{0, 671088640000, 0}},
		{chain(halving(3), halving(10), scaling(-10)), []int{0, 10000, impl.MaxSample - 1}, nil},
		{chain(scaling(-10), halving(10), halving(3)), []int{0, -10000, -impl.MaxSample + 1}, []int{0, -671088640000, 1 << 39}},
		// Products that would come to 0 in 64 bits.
		{chain(scaling(1024), halving(10), halving(9)), []int{65536, 0}, nil},
		{chain(halving(9), scaling(1024), halving(10)), []int{-65536, 0}, nil},
		{chain(halving(10), halving(9), scaling(-1024)), []int{65536, 0}, nil},
	} {
		list, ok := impl.ExactChain(c.parts, c.s)
		wantListIf(t, fmt.Sprint("exact ", c), list, ok, c.want, c.want != nil)
		if c.want == nil {
			checkNoExactChain(t, c.parts, c.s)
		}
		if impl.IsSignal(c.s) {
			checkChain(t, c.parts, c.s)
		}
	}
}

// 2^39 is a number of chapter 1, and 2^40 is none, whatever the exact numbers are.
func TestPromise7ExactNeedsPowers(t *testing.T) {
	for _, shifts := range [][]int{{0}, {1}, {2}, {10}, {1, 0}, {3, 2}, {10, 9}, {10, 10}, {0, 0, 1}, {4, 4, 5}, {10, 10, 10}, {0, 0, 0, 0}, {1, 1, 1, 0}, {9, 10, 10, 10}, {10, 10, 10, 9}, {10, 10, 10, 10}} {
		for _, a := range []int{0, 1, -1} {
			var parts []impl.First
			for _, shift := range shifts {
				parts = append(parts, first(a, shift, impl.RoundNear, hold(4)))
			}
			for n := range impl.MaxSignal + 1 {
				what := fmt.Sprint("exact ", parts, n)
				list, ok := impl.ExactChain(parts, repeat(0, n))
				wantListIf(t, what, list, ok, repeat(0, n), n*total(shifts) <= 39)
				if n*total(shifts) > 39 {
					checkNoExactChain(t, parts, repeat(0, n))
					list, ok = impl.WeightsOfChain(parts, n)
					wantNoList(t, what, list, ok)
				}
				list, ok = impl.RunChain(parts, repeat(0, n))
				wantList(t, what, list, ok, repeat(0, n))
			}
		}
	}
	widest := chain(halving(10), halving(10), halving(10), halving(9))
	list, ok := impl.ExactChain(widest, []int{1})
	wantList(t, "exact", list, ok, []int{1 << 39})
	list, ok = impl.ExactChain(widest, []int{-1})
	wantList(t, "exact", list, ok, []int{-1 << 39})
	list, ok = impl.ExactChain(widest, []int{2})
	wantNoList(t, "exact", list, ok)
}

// exactChains calls visit with parts and signals, most of which have exact numbers.
func exactChains(visit func(parts []impl.First, s []int)) {
	for _, parts := range goodChains() {
		for _, s := range goodSignals() {
			visit(parts, s)
		}
		visit(parts, []int{1, 0, 0})
	}
	source := numberSource(73)
	for length := 1; length <= impl.MaxParts; length++ {
		for range 60 {
			visit(source.someChain(length, 2, 0, 12), source.list(source.upTo(12), 500))
			visit(source.someChain(length, 3, 1, 12), source.list(source.upTo(9), 50))
			visit(source.someChain(length, 12, 3, 10), source.list(source.upTo(6), 200))
			visit(source.someChain(length, 1024, 10, 16), source.list(1+source.upTo(2), 9000))
			visit(source.someChain(length, 40, 2, 16), source.list(3+source.upTo(3), impl.MaxSample))
		}
	}
}

func TestPromise7Exact(t *testing.T) {
	made, failed := 0, 0
	exactChains(func(parts []impl.First, s []int) {
		what := fmt.Sprint(parts, s)
		want, is := exactChainBy(t, parts, s)
		list, ok := impl.ExactChain(parts, s)
		wantListIf(t, "exact "+what, list, ok, want, is)
		gap, is := errorBy(t, parts, s)
		top, bottom, ok := impl.ChainError(parts, s)
		if is {
			wantRatio(t, "error "+what, top, bottom, ok, gap)
			made++
		} else {
			wantNoTwo(t, "error "+what, top, bottom, ok)
			failed++
		}
	})
	if made < 300 || failed < 100 {
		t.Error("too few calls succeed or fail:", made, failed)
	}
}

func TestPromise7ExactDoesNotDependOnTheOrder(t *testing.T) {
	compared := 0
	exactChains(func(parts []impl.First, s []int) {
		var found []int
		has := false
		for _, order := range ordersBy(len(parts)) {
			ordered, ok := impl.OrderParts(parts, order)
			if !ok {
				t.Fatal("no parts", parts, order)
			}
			list, ok := impl.ExactChain(ordered, s)
			if !ok {
				continue
			}
			if has {
				wantList(t, fmt.Sprint("exact ", ordered, s), list, ok, found)
				compared++
			}
			found, has = list, true
		}
	})
	if compared < 1000 {
		t.Error("too few orders compared:", compared)
	}
}

// A cascade of one part is a filter of the first order that runs from 0.
func TestPromise7ExactOfOnePart(t *testing.T) {
	source := numberSource(74)
	for _, f := range firstsOf(hold(9)) {
		for range 10 {
			s := source.list(source.upTo(8), 300)
			want, is := impl.ExactFirst(f, 0, s)
			list, ok := impl.ExactChain(chain(f), s)
			wantListIf(t, fmt.Sprint("exact ", f, s), list, ok, want, is)
		}
	}
}

// Exact numbers are sums of weights times samples, as those of an answer are.
func TestPromise7ExactNumbersAreAnswers(t *testing.T) {
	compared := 0
	exactChains(func(parts []impl.First, s []int) {
		weights, ok := impl.WeightsOfChain(parts, len(s))
		exact, ok1 := impl.ExactChain(parts, s)
		if !ok || !ok1 {
			return
		}
		shift, ok := impl.ShiftOfChain(parts)
		if !ok {
			t.Fatal("no shift", parts)
		}
		for n := range s {
			sum := new(big.Int)
			for k := range n + 1 {
				product := new(big.Int).Mul(big.NewInt(int64(weights[n-k])), big.NewInt(int64(s[k])))
				sum.Add(sum, product.Lsh(product, uint(k*shift)))
			}
			if sum.Cmp(big.NewInt(int64(exact[n]))) != 0 {
				t.Error("no answer:", parts, s, n, exact[n], sum)
			}
			compared++
		}
	})
	if compared < 1000 {
		t.Error("too few numbers compared:", compared)
	}
}

func TestPromise7ShiftOfChain(t *testing.T) {
	for _, c := range []struct {
		parts []impl.First
		want  int
	}{
		{exampleParts(impl.RoundDown), 2},
		{chain(halving(0)), 0},
		{chain(halving(10)), 10},
		{chain(halving(3), halving(0), halving(4)), 7},
		{chain(halving(10), halving(10), halving(10), halving(10)), 40},
		{chain(scaling(5), scaling(-5), scaling(0), scaling(1)), 0},
	} {
		n, ok := impl.ShiftOfChain(c.parts)
		wantNumber(t, fmt.Sprint("shift ", c.parts), n, ok, c.want)
	}
	for _, parts := range badChains() {
		n, ok := impl.ShiftOfChain(parts)
		wantNoNumber(t, fmt.Sprint("shift ", parts), n, ok)
	}
}

func TestPromise7WeightsOfChain(t *testing.T) {
	triangle, run := make([]int, impl.MaxSignal), make([]int, impl.MaxSignal)
	for i := range triangle {
		run[i] = i + 1
		triangle[i] = (i + 1) * (i + 2) / 2
	}
	for _, c := range []struct {
		parts []impl.First
		want  []int
	}{
		{exampleParts(impl.RoundDown), nil},
		{exampleParts(impl.RoundNear), []int{4}},
		{exampleParts(impl.RoundZero), []int{4, 0, 16}},
		{chain(sums(hold(2))), repeat(1, impl.MaxSignal)},
		{chain(sums(hold(2)), sums(hold(2))), run},
		{chain(sums(hold(2)), sums(hold(2)), sums(wrap(2))), triangle},
		{chain(none(hold(2))), append([]int{1}, repeat(0, impl.MaxSignal-1)...)},
		{chain(scaling(1000)), []int{1, 1000, 1000000, 1000000000, impl.MaxNumber}},
		{chain(halving(1)), append([]int{2}, repeat(0, 38)...)},
		{chain(first(1, 1, impl.RoundDown, hold(2))), repeat(2, 39)},
	} {
		list, ok := impl.WeightsOfChain(c.parts, len(c.want))
		wantList(t, fmt.Sprint("weights ", c.parts), list, ok, c.want)
	}
	list, ok := impl.WeightsOfChain(chain(scaling(1000)), 6)
	wantNoList(t, "weights", list, ok)
	list, ok = impl.WeightsOfChain(chain(halving(1)), 40)
	wantNoList(t, "weights", list, ok)
	for _, parts := range goodChains() {
		for n := range impl.MaxSignal + 1 {
			s := append([]int{1}, repeat(0, impl.MaxSignal)...)[:n]
			want, is := exactChainBy(t, parts, s)
			list, ok := impl.WeightsOfChain(parts, n)
			wantListIf(t, fmt.Sprint("weights ", parts, n), list, ok, want, is)
		}
		for _, n := range []int{-1, impl.MaxSignal + 1, minInt, maxInt} {
			list, ok := impl.WeightsOfChain(parts, n)
			wantNoList(t, fmt.Sprint("weights ", parts, n), list, ok)
		}
	}
	for _, parts := range badChains() {
		for _, n := range []int{-1, 0, 1, impl.MaxSignal, impl.MaxSignal + 1} {
			list, ok := impl.WeightsOfChain(parts, n)
			wantNoList(t, fmt.Sprint("weights ", parts, n), list, ok)
		}
	}
}

func TestPromise7ErrorByHand(t *testing.T) {
	half := func(mode int) impl.First { return first(1, 1, mode, hold(8)) }
	for _, c := range []struct {
		parts       []impl.First
		s           []int
		top, bottom int
	}{
		{exampleParts(impl.RoundDown), []int{3, 0, 0}, 1, 1},
		{exampleParts(impl.RoundNear), []int{3, 0, 0}, 1, 1},
		{exampleParts(impl.RoundZero), []int{3, 0, 0}, 3, 4},
		{exampleParts(impl.RoundDown), []int{3}, 0, 1},
		{exampleParts(impl.RoundDown), nil, 0, 1},
		{chain(half(impl.RoundDown)), []int{3, 0}, 1, 2},
		{chain(half(impl.RoundDown)), []int{3, 0, 0}, 3, 4},
		{chain(half(impl.RoundNear)), []int{3, 0, 0}, 1, 2},
		{chain(half(impl.RoundZero)), []int{-3, 0, 0}, 3, 4},
		// The greatest difference is not the last one: -2 and -1, exactly -3 / 2 and -3 / 4.
		{chain(half(impl.RoundDown)), []int{-3, 0, 0}, 1, 2},
		{chain(half(impl.RoundDown)), []int{4, 0, 0}, 0, 1},
		{chain(sums(hold(4))), []int{5, 5, 5}, 8, 1},
		{chain(sums(wrap(4))), []int{5, 5}, 16, 1},
		{chain(sums(hold(4))), []int{7, 0, -7}, 0, 1},
		{chain(none(hold(16))), []int{impl.MaxSample, -impl.MaxSample}, 67233, 1},
		// Shifts that differ: 1, 0, 0 for 1, 3 / 4, 7 / 16.
		{chain(half(impl.RoundDown), first(1, 2, impl.RoundDown, hold(8))), []int{1, 0, 0}, 3, 4},
		{chain(half(impl.RoundDown), first(1, 2, impl.RoundDown, hold(8))), []int{1, 0, 1}, 3, 4},
		// Errors whose products with powers of 2 come to 0 in 64 bits.
		{chain(first(1, 10, impl.RoundDown, hold(16)), halving(3)), []int{98303, 0, 0}, 65536, 1},
	} {
		what := fmt.Sprint("error ", c)
		a, b, ok := impl.ChainError(c.parts, c.s)
		wantTwo(t, what, a, b, ok, c.top, c.bottom)
		a, b, ok = impl.OrderError(c.parts, c.s, ordersBy(len(c.parts))[0])
		wantTwo(t, what, a, b, ok, c.top, c.bottom)
	}
}
