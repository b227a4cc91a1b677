package tests

import (
	"fmt"
	"math/big"
	"slices"
	"testing"

	"loop.example/g01198/impl"
)

// Promise 2: answers multiply as weights do.

// answered makes the answer by the definition alone: at each place the sum of
// all products of the weight k and the sample n - k.
func answered(h []int, s []int) []int {
	if len(s) == 0 {
		return nil
	}
	answer := make([]int, len(h)+len(s)-1)
	for k, weight := range h {
		for i, x := range s {
			answer[k+i] += weight * x
		}
	}
	return answer
}

// inLimits reports whether a list is no longer than it may be and no number
// in it is greater in size than it may be.
func inLimits(list []int, length int, size int) bool {
	for _, x := range list {
		if x > size || -x > size {
			return false
		}
	}
	return len(list) <= length
}

// wantListIf wants a list if there is one, and failure otherwise.
func wantListIf(t *testing.T, what string, got []int, ok bool, want []int, is bool) {
	t.Helper()
	if is {
		wantList(t, what, got, ok, want)
	} else {
		wantNoList(t, what, got, ok)
	}
}

func checkAnswer(t *testing.T, h []int, s []int) {
	t.Helper()
	what := fmt.Sprint(h, s)
	want := answered(h, s)
	list, ok := impl.FilterSignal(h, s)
	wantListIf(t, "answer "+what, list, ok, want, inLimits(want, impl.MaxSignal, impl.MaxSample))
	short := want[:len(s)]
	list, ok = impl.FilterShort(h, s)
	wantListIf(t, "short answer "+what, list, ok, short, inLimits(short, impl.MaxSignal, impl.MaxSample))
}

func checkNoAnswer(t *testing.T, h []int, s []int) {
	t.Helper()
	what := fmt.Sprint(h, s)
	list, ok := impl.FilterSignal(h, s)
	wantNoList(t, "answer "+what, list, ok)
	list, ok = impl.FilterShort(h, s)
	wantNoList(t, "short answer "+what, list, ok)
}

func TestPromise2IsWeights(t *testing.T) {
	for _, h := range goodWeights() {
		if !impl.IsWeights(h) {
			t.Error("no weights:", h)
		}
	}
	for _, h := range badWeights() {
		if impl.IsWeights(h) {
			t.Error("weights:", h)
		}
	}
}

func TestPromise2AnswerOfTheExample(t *testing.T) {
	list, ok := impl.FilterSignal([]int{1, 2, 1}, []int{3, 0, 1})
	wantList(t, "answer", list, ok, []int{3, 6, 4, 2, 1})
	list, ok = impl.FilterShort([]int{1, 2, 1}, []int{3, 0, 1})
	wantList(t, "short answer", list, ok, []int{3, 6, 4})
	list, ok = impl.FilterSignal([]int{1, 2, 3}, []int{10, 20})
	wantList(t, "answer", list, ok, []int{10, 40, 70, 60})
	list, ok = impl.FilterSignal([]int{-4}, []int{10, 20})
	wantList(t, "answer of one weight", list, ok, []int{-40, -80})
}

func TestPromise2Answers(t *testing.T) {
	source := numberSource(2)
	for _, h := range goodWeights() {
		for _, s := range goodSignals() {
			checkAnswer(t, h, s)
		}
		for length := 0; length <= impl.MaxSignal; length++ {
			checkAnswer(t, h, source.list(length, 90))
		}
	}
	for range 300 {
		checkAnswer(t, source.list(5+source.next(4), 1000), source.list(20+source.next(20), 40))
	}
}

func TestPromise2AnswerOfNoSamples(t *testing.T) {
	for _, h := range goodWeights() {
		for _, s := range [][]int{nil, {}} {
			list, ok := impl.FilterSignal(h, s)
			wantList(t, fmt.Sprint("answer ", h), list, ok, nil)
			list, ok = impl.FilterShort(h, s)
			wantList(t, fmt.Sprint("short answer ", h), list, ok, nil)
		}
	}
}

func TestPromise2AnswersAtTheLimits(t *testing.T) {
	for weights := 1; weights <= impl.MaxWeights; weights++ {
		longest := impl.MaxSignal + 1 - weights
		list, ok := impl.FilterSignal(repeat(1, weights), repeat(0, longest))
		wantList(t, "as long as a signal", list, ok, repeat(0, impl.MaxSignal))
		if weights > 1 {
			list, ok = impl.FilterSignal(repeat(1, weights), repeat(0, longest+1))
			wantNoList(t, "one too long", list, ok)
		}
		list, ok = impl.FilterShort(repeat(0, weights), repeat(7, impl.MaxSignal))
		wantList(t, "short answer", list, ok, repeat(0, impl.MaxSignal))
	}
	for _, c := range []struct {
		h, s, want  []int
		whole, part bool
	}{
		{[]int{1000}, []int{100, -100}, []int{100000, -100000}, true, true},
		{[]int{1000, 1}, []int{100, 1}, []int{100000, 1100, 1}, true, true},
		{[]int{1000, 1}, []int{1, 100}, []int{1000, 100001, 100}, false, false},
		{[]int{-1000, -1}, []int{0, 100}, []int{0, -100000, -100}, true, true},
		{[]int{-1000, -1}, []int{1, 100}, []int{-1000, -100001, -100}, false, false},
		{[]int{1, 1}, []int{50000, 50000}, []int{50000, 100000, 50000}, true, true},
		{[]int{1, 1}, []int{50000, 50001}, []int{50000, 100001, 50001}, false, false},
		{[]int{1, 1}, []int{-50001, -50000}, []int{-50001, -100001, -50000}, false, false},
		{[]int{1, 2}, []int{50000}, []int{50000, 100000}, true, true},
		{[]int{1, 2}, []int{50001}, []int{50001, 100002}, false, true},
		{[]int{0, -2}, []int{1, 50001}, []int{0, -2, -100002}, false, true},
	} {
		what := fmt.Sprint(c.h, c.s)
		list, ok := impl.FilterSignal(c.h, c.s)
		wantListIf(t, "answer "+what, list, ok, c.want, c.whole)
		list, ok = impl.FilterShort(c.h, c.s)
		wantListIf(t, "short answer "+what, list, ok, c.want[:len(c.s)], c.part)
	}
}

func TestPromise2AnswersFail(t *testing.T) {
	for _, h := range badWeights() {
		checkNoAnswer(t, h, []int{1})
		checkNoAnswer(t, h, nil)
	}
	for _, s := range badSignals() {
		checkNoAnswer(t, []int{0}, s)
		checkNoAnswer(t, []int{1, -1}, s)
	}
}

func TestPromise2AnswersAddUp(t *testing.T) {
	source := numberSource(3)
	for _, h := range goodWeights() {
		a, b := source.list(20, 5), source.list(30, 5)
		sum, ok := impl.AddSignals(a, b)
		one, ok1 := impl.FilterSignal(h, a)
		two, ok2 := impl.FilterSignal(h, b)
		both, ok3 := impl.AddSignals(one, two)
		if !ok || !ok1 || !ok2 || !ok3 {
			t.Fatal(h, a, b)
		}
		list, ok := impl.FilterSignal(h, sum)
		wantList(t, fmt.Sprint("sum ", h), list, ok, both)
	}
}

func TestPromise2TimesWeights(t *testing.T) {
	for _, c := range []struct{ a, b, want []int }{
		{[]int{1, 1}, []int{1, 1}, []int{1, 2, 1}},
		{[]int{1, -1}, []int{1, 1}, []int{1, 0, -1}},
		{[]int{3}, []int{-4}, []int{-12}},
		{[]int{0, 0}, []int{5, 6}, []int{0, 0, 0}},
		{[]int{100}, []int{10, -10}, []int{1000, -1000}},
		{[]int{1000}, []int{1}, []int{1000}},
		{[]int{-1000}, []int{1, -1}, []int{-1000, 1000}},
		{repeat(1, 9), []int{7}, repeat(7, 9)},
		{[]int{20, 1}, []int{1, 50}, []int{20, 1001, 50}},
		{[]int{20, 1}, []int{0, 50}, []int{0, 1000, 50}},
		{[]int{-20, 1}, []int{-1, 50}, []int{20, -1001, 50}},
		{[]int{7, 11}, []int{143}, []int{1001, 1573}},
	} {
		is := inLimits(c.want, impl.MaxWeights, 1000)
		list, ok := impl.TimesWeights(c.a, c.b)
		wantListIf(t, fmt.Sprint("times ", c), list, ok, c.want, is)
		list, ok = impl.TimesWeights(c.b, c.a)
		wantListIf(t, fmt.Sprint("times back ", c), list, ok, c.want, is)
	}
	for _, a := range goodWeights() {
		for _, b := range goodWeights() {
			want := answered(a, b)
			list, ok := impl.TimesWeights(a, b)
			wantListIf(t, fmt.Sprint("times ", a, b), list, ok, want, inLimits(want, impl.MaxWeights, 1000))
		}
	}
}

func TestPromise2TimesWeightsAtTheLimits(t *testing.T) {
	for length := 1; length <= impl.MaxWeights; length++ {
		other := impl.MaxWeights + 1 - length
		list, ok := impl.TimesWeights(repeat(0, length), repeat(0, other))
		wantList(t, "nine weights", list, ok, repeat(0, impl.MaxWeights))
		list, ok = impl.TimesWeights(repeat(0, length), repeat(0, other+1))
		wantNoList(t, "ten weights", list, ok)
	}
	for _, h := range badWeights() {
		list, ok := impl.TimesWeights(h, []int{0})
		wantNoList(t, fmt.Sprint("times ", h), list, ok)
		list, ok = impl.TimesWeights([]int{0}, h)
		wantNoList(t, fmt.Sprint("times back ", h), list, ok)
	}
}

// One filter behind the other is the filter with the product.
func TestPromise2AnswersMultiply(t *testing.T) {
	source := numberSource(4)
	held := 0
	for range 2000 {
		a, b := source.list(3+source.next(2), 5), source.list(3+source.next(2), 5)
		s := source.list(8+source.next(8), 100)
		product, ok := impl.TimesWeights(a, b)
		once, ok1 := impl.FilterSignal(product, s)
		first, ok2 := impl.FilterSignal(a, s)
		twice, ok3 := impl.FilterSignal(b, first)
		if ok && ok1 && ok2 && ok3 {
			held++
			wantList(t, fmt.Sprint("twice ", a, b, s), twice, true, once)
		}
	}
	if held < 1900 {
		t.Error("only so many could be told:", held)
	}
}

// bigPower is the product by whole numbers of any size.
func bigPower(h []int, k int) []*big.Int {
	power := []*big.Int{big.NewInt(1)}
	for range k {
		next := make([]*big.Int, len(power)+len(h)-1)
		for i := range next {
			next[i] = new(big.Int)
		}
		for i, x := range power {
			for j, weight := range h {
				next[i+j].Add(next[i+j], new(big.Int).Mul(x, big.NewInt(int64(weight))))
			}
		}
		power = next
	}
	return power
}

func checkPower(t *testing.T, h []int, k int) {
	t.Helper()
	is, want := true, []int{}
	for _, x := range bigPower(h, k) {
		want = append(want, int(x.Int64()))
		is = is && x.CmpAbs(big.NewInt(1000)) <= 0
	}
	list, ok := impl.PowerWeights(h, k)
	wantListIf(t, fmt.Sprint("power ", h, k), list, ok, want, is && len(want) <= impl.MaxWeights)
}

func TestPromise2PowerWeights(t *testing.T) {
	list, ok := impl.PowerWeights([]int{1, 1}, 8)
	wantList(t, "power", list, ok, []int{1, 8, 28, 56, 70, 56, 28, 8, 1})
	list, ok = impl.PowerWeights([]int{1, -1, 0}, 4)
	wantList(t, "power", list, ok, []int{1, -4, 6, -4, 1, 0, 0, 0, 0})
	list, ok = impl.PowerWeights([]int{10}, 3)
	wantList(t, "power", list, ok, []int{1000})
	list, ok = impl.PowerWeights([]int{-10}, 3)
	wantList(t, "power", list, ok, []int{-1000})
	list, ok = impl.PowerWeights([]int{10}, 4)
	wantNoList(t, "power", list, ok)
	for k := 0; k <= 8; k++ {
		for a := -12; a <= 12; a++ {
			checkPower(t, []int{a}, k)
			for b := -12; b <= 12; b++ {
				checkPower(t, []int{a, b}, k)
				checkPower(t, []int{a, b, a - b}, k)
			}
		}
		for _, h := range goodWeights() {
			checkPower(t, h, k)
		}
		// These powers would come to 0 in words of 64 bits.
		checkPower(t, []int{256}, k)
		checkPower(t, []int{512}, k)
		checkPower(t, []int{-256, 512}, k)
	}
}

func TestPromise2PowerWeightsFails(t *testing.T) {
	for _, k := range []int{-1, 9, minInt, maxInt} {
		for _, h := range [][]int{{0}, {1}, {1, 1}} {
			list, ok := impl.PowerWeights(h, k)
			wantNoList(t, fmt.Sprint("power ", h, k), list, ok)
		}
	}
	for _, h := range badWeights() {
		for _, k := range []int{0, 1, 2, 8} {
			list, ok := impl.PowerWeights(h, k)
			wantNoList(t, fmt.Sprint("power ", h, k), list, ok)
		}
	}
}

func TestPromise2DivideWeights(t *testing.T) {
	for _, c := range []struct{ a, b, want []int }{
		{[]int{1, 2, 1}, []int{1, 1}, []int{1, 1}},
		{[]int{1, 0, -1}, []int{1, 1}, []int{1, -1}},
		{[]int{1, 2, 1}, []int{1, 2, 1}, []int{1}},
		{[]int{0, 0, 0}, []int{7, 3}, []int{0, 0}},
		{[]int{0, 6, 4}, []int{3, 2}, []int{0, 2}},
		{[]int{-12}, []int{4}, []int{-3}},
		{[]int{1000}, []int{-1}, []int{-1000}},
		{repeat(0, 9), []int{5}, repeat(0, 9)},
		{[]int{2, 0}, []int{1, 0}, []int{2}},
	} {
		list, ok := impl.DivideWeights(c.a, c.b)
		wantList(t, fmt.Sprint("divide ", c), list, ok, c.want)
	}
	for _, c := range []struct{ a, b []int }{
		{[]int{1, 2, 1}, []int{1, 3}}, // something is left over
		{[]int{1, 2, 2}, []int{1, 1}}, // at the last place alone
		{[]int{1, 3, 1}, []int{2, 1}}, // no whole number
		{[]int{3}, []int{2}},
		{[]int{-3}, []int{2}},
		{[]int{2, 4, 1}, []int{2}}, // at the last place alone
		{[]int{1}, []int{1, 0}},    // shorter than what divides it
		{[]int{0}, []int{1, 0}},
		{[]int{0}, []int{0}}, // the first weight is 0
		{[]int{0, 1}, []int{0, 1}},
		{[]int{0, 0, 1}, []int{0, 1}},
		{[]int{1, 1, 1, 1, 1}, []int{1, 1000}},
		{repeat(1, 9), []int{1, -1000}},
	} {
		list, ok := impl.DivideWeights(c.a, c.b)
		wantNoList(t, fmt.Sprint("divide ", c), list, ok)
	}
}

// A list whose product with weights are weights may be none itself.
func TestPromise2DivideWeightsByTooGreatOnes(t *testing.T) {
	for _, q := range [][]int{
		{1, 1000, 1},
		{1, 1001, 1},
		{-1, -1000, -1},
		{-1, -1001, -1},
		{500, 1000, 500, 0, -500, -1000, -500},
		{1, 1000, 1999, 1000, 1},
	} {
		a := answered(q, []int{1, -1})
		if !impl.IsWeights(a) {
			t.Fatal("no weights:", a)
		}
		list, ok := impl.DivideWeights(a, []int{1, -1})
		wantListIf(t, fmt.Sprint("divide ", a), list, ok, q, inLimits(q, impl.MaxWeights, 1000))
	}
}

func TestPromise2DivideWeightsUndoesTimes(t *testing.T) {
	source := numberSource(5)
	for range 3000 {
		a, b := source.list(3+source.next(2), 9), source.list(3+source.next(2), 9)
		if b[0] == 0 {
			b[0] = 1
		}
		product, ok := impl.TimesWeights(a, b)
		if !ok {
			t.Fatal("no product", a, b)
		}
		list, ok := impl.DivideWeights(product, b)
		wantList(t, fmt.Sprint("divide ", product, b), list, ok, a)
		// What is one beside a product has a quotient only if all of it has.
		place := (len(product) - 1) * (1 + source.next(1)) / 2
		product[place]++
		list, ok = impl.DivideWeights(product, b)
		if ok && !slices.Equal(answered(list, b), product) || !ok && len(list) != 0 {
			t.Error("divide", product, b, list, ok)
		}
	}
}

func TestPromise2DivideWeightsFails(t *testing.T) {
	for _, h := range badWeights() {
		list, ok := impl.DivideWeights(h, []int{1})
		wantNoList(t, fmt.Sprint("divide ", h), list, ok)
		list, ok = impl.DivideWeights([]int{0, 0, 0}, h)
		wantNoList(t, fmt.Sprint("divide by ", h), list, ok)
	}
}

func TestPromise2InverseAnswer(t *testing.T) {
	for _, c := range []struct {
		h    []int
		n    int
		want []int
	}{
		{[]int{1, -1}, 5, repeat(1, 5)},
		{[]int{1, -1}, 64, repeat(1, 64)},
		{[]int{1}, 3, []int{1, 0, 0}},
		{[]int{-1}, 3, []int{-1, 0, 0}},
		{[]int{1, 1}, 4, []int{1, -1, 1, -1}},
		{[]int{-1, 1}, 4, []int{-1, -1, -1, -1}},
		{[]int{1, -2}, 5, []int{1, 2, 4, 8, 16}},
		{[]int{1, -2, 1}, 5, []int{1, 2, 3, 4, 5}},
		{[]int{-1, 1, 1}, 6, []int{-1, -1, -2, -3, -5, -8}},
		{[]int{1, 0, 0, 0, 0, 0, 0, 0, -3}, 18, []int{1, 0, 0, 0, 0, 0, 0, 0, 3, 0, 0, 0, 0, 0, 0, 0, 9, 0}},
		{[]int{1, -10}, 6, []int{1, 10, 100, 1000, 10000, 100000}},
		{[]int{1, 10}, 6, []int{1, -10, 100, -1000, 10000, -100000}},
		{[]int{1, 1000}, 1, []int{1}},
		{[]int{1, 1000}, 0, nil},
		{[]int{-1, 1000}, 0, nil},
	} {
		list, ok := impl.InverseAnswer(c.h, c.n)
		wantList(t, fmt.Sprint("inverse ", c), list, ok, c.want)
	}
	for _, c := range []struct {
		h []int
		n int
	}{
		{[]int{1, -10}, 7},
		{[]int{1, 1000}, 3},
		{[]int{1, -1000, 1000, -1000, 1000}, 64},
		{[]int{1, -2}, 18},
		{[]int{0}, 1},
		{[]int{0, 1}, 0},
		{[]int{2}, 0},
		{[]int{-2, 1}, 1},
		{[]int{1000, 1}, 64},
		{[]int{1}, -1},
		{[]int{1}, 65},
		{[]int{1}, maxInt},
		{[]int{-1}, minInt},
	} {
		list, ok := impl.InverseAnswer(c.h, c.n)
		wantNoList(t, fmt.Sprint("inverse ", c), list, ok)
	}
	for _, h := range badWeights() {
		for _, n := range []int{0, 1} {
			list, ok := impl.InverseAnswer(h, n)
			wantNoList(t, fmt.Sprint("inverse ", h, n), list, ok)
		}
	}
}

func TestPromise2InverseAnswersWithOne(t *testing.T) {
	source := numberSource(6)
	for range 1000 {
		h := source.list(3+source.next(2), 2)
		h[0] = 1 - 2*(source.next(1)&1)
		for n := range 9 {
			inverse, ok := impl.InverseAnswer(h, n)
			list, ok1 := impl.FilterShort(h, inverse)
			if !ok || !ok1 {
				t.Fatal("inverse", h, n)
			}
			one := repeat(0, n)
			if n > 0 {
				one[0] = 1
			}
			wantList(t, fmt.Sprint("answer to the inverse ", h, n), list, ok1, one)
		}
	}
}
