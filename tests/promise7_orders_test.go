package tests

import (
	"fmt"
	"slices"
	"strings"
	"testing"

	"loop.example/g01198/impl"
)

// Promise 7: orders of parts, their errors and outputs, and the best order.

// badPartOrders are no orders of so many parts: an index is left out, twice there or
// out of range, or there are too few or too many.
func badPartOrders(parts int) [][]int {
	order := ordersBy(parts)[0]
	orders := [][]int{nil, {}, order[1:], order[:parts-1], append(slices.Clone(order), 0), append(slices.Clone(order), parts), slices.Concat(order, order), repeat(0, parts+1)}
	for place := range parts {
		for _, index := range []int{-1, parts, parts + 1, minInt, maxInt} {
			wrong := slices.Clone(order)
			wrong[place] = index
			orders = append(orders, wrong)
		}
		if parts > 1 {
			twice := slices.Clone(order)
			twice[place] = order[(place+1)%parts]
			orders = append(orders, twice)
		}
	}
	return orders
}

func TestPromise7OrderParts(t *testing.T) {
	a, b, c, d := halving(1), scaling(2), sums(hold(3)), none(wrap(4))
	for _, e := range []struct {
		parts []impl.First
		order []int
		want  []impl.First
	}{
		{chain(a), []int{0}, chain(a)},
		{chain(a, b), []int{0, 1}, chain(a, b)},
		{chain(a, b), []int{1, 0}, chain(b, a)},
		{chain(a, b, c), []int{2, 0, 1}, chain(c, a, b)},
		{chain(a, b, c), []int{1, 2, 0}, chain(b, c, a)},
		{chain(a, b, c, d), []int{3, 1, 0, 2}, chain(d, b, a, c)},
		{chain(a, b, c, d), []int{1, 2, 3, 0}, chain(b, c, d, a)},
		{chain(a, a, a, a), []int{3, 2, 1, 0}, chain(a, a, a, a)},
	} {
		list, ok := impl.OrderParts(e.parts, e.order)
		wantParts(t, fmt.Sprint("order ", e), list, ok, e.want)
	}
	for _, parts := range goodChains() {
		for _, order := range ordersBy(len(parts)) {
			list, ok := impl.OrderParts(parts, order)
			wantParts(t, fmt.Sprint("order ", parts, order), list, ok, orderedBy(parts, order))
		}
	}
}

func TestPromise7OrdersFail(t *testing.T) {
	for _, parts := range goodChains() {
		for _, order := range badPartOrders(len(parts)) {
			what := fmt.Sprint("order ", parts, order)
			list, ok := impl.OrderParts(parts, order)
			wantNoParts(t, what, list, ok)
			for _, s := range [][]int{nil, {1}} {
				a, b, ok := impl.OrderError(parts, s, order)
				wantNoTwo(t, what, a, b, ok)
			}
		}
		for _, order := range ordersBy(len(parts)) {
			for _, s := range badSignals() {
				a, b, ok := impl.OrderError(parts, s, order)
				wantNoTwo(t, fmt.Sprint("order ", parts, s, order), a, b, ok)
			}
		}
	}
	for _, parts := range badChains() {
		for _, order := range [][]int{nil, ordersBy(min(len(parts), impl.MaxParts+1))[0], {1, 0}} {
			what := fmt.Sprint("order ", parts, order)
			list, ok := impl.OrderParts(parts, order)
			wantNoParts(t, what, list, ok)
			a, b, ok := impl.OrderError(parts, []int{1}, order)
			wantNoTwo(t, what, a, b, ok)
		}
	}
}

func TestPromise7OrdersByHand(t *testing.T) {
	sum, narrow := sums(hold(8)), none(hold(4))
	fives := []int{5, 5}
	for _, c := range []struct {
		parts   []impl.First
		s       []int
		best    []int
		errors  [][2]int
		outputs int
	}{
		{exampleParts(impl.RoundDown), []int{3, 0, 0}, []int{0, 1}, [][2]int{{1, 1}, {1, 1}}, 1},
		{exampleParts(impl.RoundDown), nil, []int{0, 1}, [][2]int{{0, 1}, {0, 1}}, 1},
		// 3, 1, 1 and 3, 1, 2 for 3, 0, 3 / 4.
		{exampleParts(impl.RoundNear), []int{3, 0, 0}, []int{0, 1}, [][2]int{{1, 1}, {5, 4}}, 2},
		{chain(sum), fives, []int{0}, [][2]int{{0, 1}}, 1},
		// 5, 7 and 5, 10.
		{chain(sum, narrow), fives, []int{1, 0}, [][2]int{{3, 1}, {0, 1}}, 2},
		{chain(narrow, sum), fives, []int{0, 1}, [][2]int{{0, 1}, {3, 1}}, 2},
		{chain(sum, narrow, narrow), fives, []int{1, 2, 0}, [][2]int{{3, 1}, {3, 1}, {3, 1}, {0, 1}, {3, 1}, {0, 1}}, 2},
		{chain(narrow, sum, narrow), fives, []int{0, 2, 1}, [][2]int{{3, 1}, {0, 1}, {3, 1}, {3, 1}, {0, 1}, {3, 1}}, 2},
		{chain(sum, sum, sum, sum), fives, []int{0, 1, 2, 3}, slices.Repeat([][2]int{{0, 1}}, 24), 1},
		{chain(narrow, narrow, narrow), []int{9, 8}, []int{0, 1, 2}, slices.Repeat([][2]int{{2, 1}}, 6), 1},
	} {
		what := fmt.Sprint(c.parts, c.s)
		list, ok := impl.BestOrder(c.parts, c.s)
		wantList(t, "best order "+what, list, ok, c.best)
		n, ok := impl.CountOutputs(c.parts, c.s)
		wantNumber(t, "outputs "+what, n, ok, c.outputs)
		for i, order := range ordersBy(len(c.parts)) {
			a, b, ok := impl.OrderError(c.parts, c.s, order)
			wantTwo(t, fmt.Sprint("error ", what, order), a, b, ok, c.errors[i][0], c.errors[i][1])
		}
	}
}

// bestBy finds the best order, and whether each order has an error, by the
// definition alone.
func bestBy(t *testing.T, parts []impl.First, s []int) ([]int, bool) {
	t.Helper()
	orders := ordersBy(len(parts))
	best := orders[0]
	least, ok := errorBy(t, parts, s)
	if !ok {
		return nil, false
	}
	for _, order := range orders[1:] {
		gap, ok := errorBy(t, orderedBy(parts, order), s)
		if !ok {
			return nil, false
		}
		if gap.Cmp(least) < 0 {
			best, least = order, gap
		}
	}
	return best, true
}

func TestPromise7Orders(t *testing.T) {
	later, several := 0, 0
	exactChains(func(parts []impl.First, s []int) {
		what := fmt.Sprint(parts, s)
		best, is := bestBy(t, parts, s)
		list, ok := impl.BestOrder(parts, s)
		wantListIf(t, "best order "+what, list, ok, best, is)
		if is && !slices.IsSorted(best) {
			later++
		}
		outputs := map[string]bool{}
		for _, order := range ordersBy(len(parts)) {
			ordered := orderedBy(parts, order)
			outputs[fmt.Sprint(outputBy(t, ordered, s))] = true
			gap, is := errorBy(t, ordered, s)
			top, bottom, ok := impl.OrderError(parts, s, order)
			if is {
				wantRatio(t, fmt.Sprint("error ", what, order), top, bottom, ok, gap)
			} else {
				wantNoTwo(t, fmt.Sprint("error ", what, order), top, bottom, ok)
			}
		}
		n, ok := impl.CountOutputs(parts, s)
		wantNumber(t, "outputs "+what, n, ok, len(outputs))
		if n > 2 {
			several++
		}
	})
	if later < 30 || several < 30 {
		t.Error("too few later orders are best, or too few have several outputs:", later, several)
	}
}

// In one order a part before the last has an exact number that is none of chapter
// 1: there is no error to compare in it.
func TestPromise7BestOrderNeedsAllErrors(t *testing.T) {
	parts, s := chain(scaling(-1), scaling(1000)), []int{1000, 0, 0, 1}
	a, b, ok := impl.OrderError(parts, s, []int{0, 1})
	wantTwo(t, "error", a, b, ok, 999000966234, 1)
	a, b, ok = impl.OrderError(parts, s, []int{1, 0})
	wantNoTwo(t, "error", a, b, ok)
	list, ok := impl.BestOrder(parts, s)
	wantNoList(t, "best order", list, ok)
	list, ok = impl.BestOrder(chain(parts[1], parts[0]), s)
	wantNoList(t, "best order", list, ok)
	list, ok = impl.BestOrder(parts, []int{1000, 0, 0, 0})
	wantList(t, "best order", list, ok, []int{0, 1})
}

func TestPromise7ChainText(t *testing.T) {
	for _, c := range []struct {
		parts []impl.First
		want  string
	}{
		{exampleParts(impl.RoundDown), "1/1;-1/1"},
		{chain(halving(0)), "0/0"},
		{chain(first(-1024, 10, impl.RoundZero, wrap(2))), "-1024/10"},
		{chain(scaling(1024), halving(9), scaling(-7)), "1024/0;0/9;-7/0"},
		{chain(halving(1), halving(1), halving(1), first(-12, 3, impl.RoundNear, hold(5))), "0/1;0/1;0/1;-12/3"},
	} {
		text, ok := impl.ChainText(c.parts)
		if text != c.want || !ok {
			t.Error("text:", c.parts, text, ok)
		}
	}
	for _, parts := range goodChains() {
		var texts []string
		for _, f := range parts {
			texts = append(texts, fmt.Sprintf("%d/%d", f.A, f.Shift))
		}
		text, ok := impl.ChainText(parts)
		if text != strings.Join(texts, ";") || !ok {
			t.Error("text:", parts, text, ok)
		}
	}
	for _, parts := range badChains() {
		if text, ok := impl.ChainText(parts); text != "" || ok {
			t.Error("text:", parts, text, ok)
		}
	}
}
