package tests

import (
	"fmt"
	"slices"
	"testing"

	"loop.example/g01198/impl"
)

// Promise 8: phases work as zeros put in.

func TestPromise8PhasesByHand(t *testing.T) {
	h := []int{1, 2, 3, 4, 5}
	for _, c := range []struct {
		h    []int
		p    int
		want [][]int
	}{
		{h, 1, [][]int{h}},
		{h, 2, [][]int{{1, 3, 5}, {2, 4}}},
		{h, 3, [][]int{{1, 4}, {2, 5}, {3}}},
		{h, 4, [][]int{{1, 5}, {2}, {3}, {4}}},
		{h, 5, [][]int{{1}, {2}, {3}, {4}, {5}}},
		{h, 6, [][]int{{1}, {2}, {3}, {4}, {5}, {}}},
		{h, 8, [][]int{{1}, {2}, {3}, {4}, {5}, {}, {}, {}}},
		{[]int{0}, 1, [][]int{{0}}},
		{[]int{-7}, 8, [][]int{{-7}, {}, {}, {}, {}, {}, {}, {}}},
		{repeat(1000, 9), 8, [][]int{{1000, 1000}, {1000}, {1000}, {1000}, {1000}, {1000}, {1000}, {1000}}},
		{repeat(-1000, 9), 1, [][]int{repeat(-1000, 9)}},
	} {
		lists, ok := impl.PhasesOf(c.h, c.p)
		wantLists(t, fmt.Sprint("phases ", c.h, c.p), lists, ok, c.want)
		list, ok := impl.JoinPhases(c.want)
		wantList(t, fmt.Sprint("joined ", c.want), list, ok, c.h)
	}
}

func TestPromise8Phases(t *testing.T) {
	source := numberSource(82)
	weights := goodWeights()
	for length := 1; length <= impl.MaxWeights; length++ {
		weights = append(weights, source.list(length, 1000))
	}
	for _, h := range weights {
		for p := 1; p <= impl.MaxRatio; p++ {
			lists, ok := impl.PhasesOf(h, p)
			wantLists(t, fmt.Sprint("phases ", h, p), lists, ok, phasesBy(h, p))
			list, ok := impl.JoinPhases(lists)
			wantList(t, fmt.Sprint("joined ", lists), list, ok, h)
		}
		for _, p := range badTerms {
			lists, ok := impl.PhasesOf(h, p)
			wantNoLists(t, fmt.Sprint("phases ", h, p), lists, ok)
		}
	}
	for _, h := range badWeights() {
		for p := 1; p <= impl.MaxRatio; p++ {
			lists, ok := impl.PhasesOf(h, p)
			wantNoLists(t, fmt.Sprint("phases ", h, p), lists, ok)
		}
	}
}

// Lists of all lengths up to 5: they are phases exactly if each list is as long as
// the one before it or, once, one shorter.
func TestPromise8JoinPhasesOfAllLengths(t *testing.T) {
	eachList(5, []int{0, 1, 2, 3, 4, 5}, func(lengths []int) {
		shorter, next := 0, 1
		var lists [][]int
		for i, length := range lengths {
			if i > 0 && length != lengths[i-1] {
				shorter += lengths[i-1] - length
			}
			if i > 0 && length > lengths[i-1] {
				shorter = 2 // no phase is longer than one before it
			}
			var list []int
			for range length {
				list = append(list, next)
				next++
			}
			lists = append(lists, list)
		}
		is := len(lengths) > 0 && shorter < 2 && total(lengths) >= 1 && total(lengths) <= impl.MaxWeights
		list, ok := impl.JoinPhases(lists)
		if ok != is || !is && len(list) != 0 {
			t.Error("joined", lists, list, ok)
		}
		if is {
			wantLists(t, fmt.Sprint("phases of ", list), phasesBy(list, len(lists)), true, lists)
		}
	})
}

func TestPromise8JoinPhasesAtTheLimits(t *testing.T) {
	ones := slices.Repeat([][]int{{1}}, impl.MaxRatio)
	for _, c := range []struct {
		lists [][]int
		want  []int
	}{
		{ones, repeat(1, 8)},
		{append([][]int{{1, 1}}, ones[1:]...), repeat(1, 9)},
		{append([][]int{{1, 1}, {1, 1}}, ones[2:]...), nil}, // one weight too many
		{append(ones[:8:8], []int{1}), nil},                 // one list too many
		{append(ones[:8:8], nil), nil},
		{slices.Repeat([][]int{{1}}, 1000), nil},
		{append(ones[:7:7], nil), repeat(1, 7)},
		{append([][]int{{1}}, make([][]int, 7)...), []int{1}},
		{append([][]int{nil, {1}}, make([][]int, 6)...), nil},
		{append([][]int{{1, 1}, {}}, ones[2:]...), nil},
		{[][]int{repeat(2, 9)}, repeat(2, 9)},
		{[][]int{repeat(2, 10)}, nil},
		{[][]int{repeat(2, 5), repeat(3, 4)}, []int{2, 3, 2, 3, 2, 3, 2, 3, 2}},
		{[][]int{repeat(2, 4), repeat(3, 5)}, nil},
		{[][]int{repeat(2, 5), repeat(3, 5)}, nil},
		{[][]int{repeat(2, 1000), repeat(3, 1000)}, nil},
		{[][]int{repeat(2, 64)}, nil},
		{[][]int{repeat(2, 65)}, nil},
		{[][]int{{1, 2, 3}, {4}}, nil},
		{[][]int{{1, 2}, {3}, {4, 5}}, nil},
		{[][]int{{1000, -1000}, {-1000, 1000}}, []int{1000, -1000, -1000, 1000}},
		{[][]int{{1001}}, nil},
		{[][]int{{0, 0}, {0, -1001}}, nil},
		{[][]int{{impl.MaxSample}}, nil},
		{[][]int{{impl.MaxSample + 1}}, nil},
		{[][]int{{1}, {maxInt}}, nil},
		{[][]int{{minInt}, {1}}, nil},
		{nil, nil},
		{[][]int{}, nil},
		{[][]int{nil}, nil},
		{[][]int{{}, {}}, nil},
		{make([][]int, 8), nil},
		{make([][]int, 9), nil},
	} {
		list, ok := impl.JoinPhases(c.lists)
		wantListIf(t, fmt.Sprint("joined ", c.lists), list, ok, c.want, c.want != nil)
	}
}

func TestPromise8FiltersByHand(t *testing.T) {
	for _, c := range []struct {
		h, s []int
		p, q int
		want []int
	}{
		{[]int{1, 2, 3}, []int{1, 10}, 1, 1, []int{1, 12}},
		{[]int{1, 2, 3}, []int{1, 10}, 2, 1, []int{1, 2, 13, 20}},
		{[]int{1, 2, 3}, []int{1, 10}, 2, 2, []int{1, 13}},
		{[]int{1, 2, 3}, []int{1, 10}, 2, 3, []int{1, 20}},
		{[]int{1, 2, 3}, []int{1, 10}, 2, 4, []int{1}},
		{[]int{1, 2, 3}, []int{1, 10}, 1, 8, []int{1}},
		{[]int{1, 2, 3}, []int{1, 10}, 4, 1, []int{1, 2, 3, 0, 10, 20, 30, 0}}, // an empty phase
		{[]int{1, 2, 3}, []int{1, 10}, 4, 3, []int{1, 0, 30}},
		{[]int{1, 2, 3}, []int{1, 10, 100}, 3, 2, []int{1, 3, 20, 100, 300}},
		{[]int{1, 2, 3}, []int{1, 10, 100, 1000}, 1, 2, []int{1, 123}},
		{[]int{5}, []int{1, -2, 3}, 1, 2, []int{5, 15}},
		{[]int{5}, []int{1, -2}, 3, 1, []int{5, 0, 0, -10, 0, 0}},
		{[]int{0}, []int{7, 7}, 2, 1, repeat(0, 4)},
		{[]int{1, 1}, []int{3, -1, 4}, 2, 1, []int{3, 3, -1, -1, 4, 4}},
		{[]int{1, 2, 1}, nil, 8, 1, nil},
		{[]int{1, 2, 1}, []int{}, 1, 8, nil},
	} {
		what := fmt.Sprint(c.h, c.s, c.p, c.q)
		list, ok := impl.UpFilterDown(c.h, c.s, c.p, c.q)
		wantList(t, "filtered "+what, list, ok, c.want)
		list, ok = impl.ByPhases(c.h, c.s, c.p, c.q)
		wantList(t, "by phases "+what, list, ok, c.want)
	}
}

// Only what is kept must be samples.
func TestPromise8FiltersAtTheLimits(t *testing.T) {
	most := impl.MaxSample
	for _, c := range []struct {
		h, s []int
		p, q int
		want []int
	}{
		{[]int{1, 2}, []int{most}, 2, 1, nil},
		{[]int{1, 2}, []int{most}, 2, 2, []int{most}},
		{[]int{1, -2}, []int{-most}, 2, 1, nil},
		{[]int{1, -2}, []int{-most}, 2, 2, []int{-most}},
		{[]int{2, 1}, []int{most}, 2, 2, nil},
		{[]int{2, 1}, []int{0, most, 0}, 1, 2, []int{0, most}},
		{[]int{2, 1}, []int{0, most, 1}, 1, 2, nil},
		{[]int{2, 1}, []int{0, -most, -1}, 1, 2, nil},
		{[]int{1, 1}, []int{50000, 50000}, 1, 1, []int{50000, most}},
		{[]int{1, 1}, []int{50000, 50001}, 1, 1, nil},
		{[]int{1, 1}, []int{50000, 50001}, 1, 2, []int{50000}},
		{[]int{1, 1}, []int{-50000, -50001}, 1, 1, nil},
		{[]int{1000}, []int{100, -100}, 8, 8, []int{most, -most}},
		{[]int{1000}, []int{100, -101}, 8, 8, nil},
		{repeat(1000, 9), repeat(most, 64), 1, 1, nil},
		{[]int{1}, repeat(most, 8), 8, 1, stuffedBy(repeat(most, 8), 8)},
		{[]int{1}, repeat(-most, 64), 1, 1, repeat(-most, 64)},
		// Zeros can not be put in, though the result would be short enough.
		{[]int{1}, repeat(1, 9), 8, 8, nil},
		{[]int{1}, repeat(1, 33), 2, 8, nil},
		{[]int{1}, repeat(1, 32), 2, 2, repeat(1, 32)},
		{[]int{1}, repeat(1, 64), 1, 8, repeat(1, 8)},
	} {
		what := fmt.Sprint(c.h, c.s, c.p, c.q)
		list, ok := impl.UpFilterDown(c.h, c.s, c.p, c.q)
		wantListIf(t, "filtered "+what, list, ok, c.want, c.want != nil)
		list, ok = impl.ByPhases(c.h, c.s, c.p, c.q)
		wantListIf(t, "by phases "+what, list, ok, c.want, c.want != nil)
	}
}

func checkFilter(t *testing.T, h []int, s []int, p int, q int) {
	t.Helper()
	what := fmt.Sprint(h, s, p, q)
	var want []int
	is := len(s)*p <= impl.MaxSignal
	if is {
		want = upDownBy(h, s, p, q)
		is = isExact(want)
	}
	list, ok := impl.UpFilterDown(h, s, p, q)
	wantListIf(t, "filtered "+what, list, ok, want, is)
	if length, _ := impl.LengthAfter(len(s), p, q); ok && len(list) != length {
		t.Error("filtered ", what, len(list), "samples, not", length)
	}
	list, ok = impl.ByPhases(h, s, p, q)
	wantListIf(t, "by phases "+what, list, ok, want, is)
	if p == 1 {
		list, ok = impl.DownFilter(h, s, q)
		wantListIf(t, "down "+what, list, ok, want, is)
	}
	if q == 1 {
		list, ok = impl.UpFilter(h, s, p)
		wantListIf(t, "up "+what, list, ok, want, is)
	}
}

func TestPromise8Filters(t *testing.T) {
	source := numberSource(83)
	signals := goodSignals()
	for _, length := range []int{1, 2, 3, 7, 8, 9, 16, 21, 31, 32, 33, 63, 64} {
		signals = append(signals, source.list(length, 9), source.list(length, 20))
	}
	for _, h := range goodWeights() {
		for _, s := range signals {
			eachRatio(func(p int, q int) { checkFilter(t, h, s, p, q) })
		}
	}
	for length := 1; length <= impl.MaxWeights; length++ {
		for range 20 {
			h, s := source.list(length, 100), source.list(source.upTo(20), 300)
			eachRatio(func(p int, q int) { checkFilter(t, h, s, p, q) })
		}
	}
}

// The filters are those of the chapters before, one behind the other.
func TestPromise8FiltersAreStuffedAndDropped(t *testing.T) {
	source := numberSource(84)
	for range 30 {
		h, s := source.list(1+source.upTo(8), 10), source.list(source.upTo(8), 100)
		eachRatio(func(p int, q int) {
			stuffed, ok := impl.StuffZeros(s, p)
			if !ok {
				t.Fatal("nothing stuffed", s, p)
			}
			answer, ok := impl.FilterShort(h, stuffed)
			if !ok {
				t.Fatal("no answer", h, stuffed)
			}
			want, _ := impl.DropSamples(answer, q, 0)
			list, ok := impl.ByPhases(h, s, p, q)
			wantList(t, fmt.Sprint("by phases ", h, s, p, q), list, ok, want)
		})
	}
}

func TestPromise8FiltersFail(t *testing.T) {
	for _, h := range badWeights() {
		for _, s := range [][]int{nil, {}, {0}, {3, -1, 4}} {
			eachRatio(func(p int, q int) { checkNoFilter(t, h, s, p, q) })
		}
		list, ok := impl.DownFilter(h, []int{0}, 1)
		wantNoList(t, fmt.Sprint("down ", h), list, ok)
		list, ok = impl.UpFilter(h, []int{0}, 1)
		wantNoList(t, fmt.Sprint("up ", h), list, ok)
	}
	for _, s := range badSignals() {
		for _, h := range [][]int{{0}, {1}, {1, 2, 1}} {
			eachRatio(func(p int, q int) { checkNoFilter(t, h, s, p, q) })
		}
		list, ok := impl.DownFilter([]int{1}, s, 8)
		wantNoList(t, fmt.Sprint("down ", s), list, ok)
		list, ok = impl.UpFilter([]int{1}, s, 1)
		wantNoList(t, fmt.Sprint("up ", s), list, ok)
	}
	for _, s := range [][]int{nil, {0}, {3, -1, 4}} {
		for _, r := range badRatios() {
			checkNoFilter(t, []int{1, 2, 1}, s, r[0], r[1])
		}
		for _, bad := range badTerms {
			list, ok := impl.DownFilter([]int{1}, s, bad)
			wantNoList(t, fmt.Sprint("down ", s, bad), list, ok)
			list, ok = impl.UpFilter([]int{1}, s, bad)
			wantNoList(t, fmt.Sprint("up ", s, bad), list, ok)
		}
	}
}

func TestPromise8ProductsByHand(t *testing.T) {
	for _, c := range []struct{ weights, n, p, q, direct, byPhases int }{
		{3, 4, 1, 1, 9, 9},  // 1, 2, 3, 3
		{3, 4, 1, 2, 9, 4},  // 1 and 3 of them are kept
		{3, 2, 2, 1, 9, 5},  // 1, 1, 2, 1
		{3, 2, 2, 3, 9, 2},  // the first and the last one of these
		{3, 2, 4, 1, 21, 6}, // 1, 1, 1, 0, twice
		{1, 64, 1, 1, 64, 64},
		{1, 8, 8, 1, 64, 8},
		{1, 8, 8, 8, 64, 8},
		{9, 64, 1, 8, 540, 64}, // 1, and seven times 9
		{9, 64, 1, 1, 540, 540},
		{9, 1, 8, 1, 36, 8},
		{9, 2, 8, 1, 108, 17},
		{5, 0, 8, 1, 0, 0},
		{5, 0, 1, 1, 0, 0},
		{9, 1, 1, 1, 1, 1},
	} {
		for _, weight := range []int{0, 1, -1000} {
			h := repeat(weight, c.weights)
			n, ok := impl.ProductsDirect(h, c.n, c.p, c.q)
			wantNumber(t, fmt.Sprint("products ", c), n, ok, c.direct)
			n, ok = impl.ProductsByPhases(h, c.n, c.p, c.q)
			wantNumber(t, fmt.Sprint("products by phases ", c), n, ok, c.byPhases)
		}
	}
}

func TestPromise8Products(t *testing.T) {
	source := numberSource(85)
	for weights := 1; weights <= impl.MaxWeights; weights++ {
		h := source.list(weights, 2)
		eachRatio(func(p int, q int) {
			for n := 0; n <= impl.MaxSignal; n++ {
				if n*p > impl.MaxSignal {
					checkNoProducts(t, h, n, p, q)
					continue
				}
				what := fmt.Sprint(h, n, p, q)
				direct, byPhases := productsBy(weights, n, p, q)
				count, ok := impl.ProductsDirect(h, n, p, q)
				wantNumber(t, "products "+what, count, ok, direct)
				count, ok = impl.ProductsByPhases(h, n, p, q)
				wantNumber(t, "products by phases "+what, count, ok, byPhases)
			}
			for _, n := range badLengths {
				checkNoProducts(t, h, n, p, q)
			}
		})
	}
	for _, h := range badWeights() {
		eachRatio(func(p int, q int) { checkNoProducts(t, h, 3, p, q) })
	}
	for _, r := range badRatios() {
		for _, n := range []int{-1, 0, 1, impl.MaxSignal, impl.MaxSignal + 1} {
			checkNoProducts(t, []int{1, 2, 1}, n, r[0], r[1])
		}
	}
}
