package tests

import (
	"fmt"
	"testing"

	"loop.example/g01198/impl"
)

// Promise 7: cascades let each part run with the numbers of the one before it.

func TestPromise7AreParts(t *testing.T) {
	for _, parts := range goodChains() {
		if !impl.AreParts(parts) {
			t.Error("no parts:", parts)
		}
	}
	for _, parts := range badChains() {
		if impl.AreParts(parts) {
			t.Error("parts:", parts)
		}
	}
	source := numberSource(70)
	for length := range impl.MaxParts + 2 {
		for range 50 {
			parts := source.someChain(length, 1024, 10, 16)
			if is := impl.AreParts(parts); is != (length >= 1 && length <= impl.MaxParts) {
				t.Error("parts:", parts, is)
			}
		}
	}
}

// none is a filter that passes on what comes, fitted to its word.
func none(w impl.Word) impl.First {
	return first(0, 0, impl.RoundDown, w)
}

// sums is a filter that makes running sums, fitted to its word.
func sums(w impl.Word) impl.First {
	return first(1, 0, impl.RoundDown, w)
}

func TestPromise7ChainsByHand(t *testing.T) {
	for _, c := range []struct {
		parts   []impl.First
		signals [][]int
		peaks   []int
	}{
		{exampleParts(impl.RoundDown), [][]int{{3, 0, 0}, {3, 1, 0}, {3, -1, 0}}, []int{3, 3, 3}},
		{exampleParts(impl.RoundNear), [][]int{{3, 0, 0}, {3, 2, 1}, {3, 1, 1}}, []int{3, 3, 3}},
		{exampleParts(impl.RoundZero), [][]int{{3, 0, 0}, {3, 1, 0}, {3, 0, 0}}, []int{3, 3, 3}},
		{chain(none(hold(4)), none(wrap(3))), [][]int{{9, 7, -9, 4}, {7, 7, -8, 4}, {-1, -1, 0, -4}}, []int{9, 8, 4}},
		{chain(none(wrap(3)), none(hold(4))), [][]int{{9, 7, -9, 4}, {1, -1, -1, -4}, {1, -1, -1, -4}}, []int{9, 4, 4}},
		{chain(sums(hold(8))), [][]int{{1, 2, 3}, {1, 3, 6}}, []int{3, 6}},
		{chain(sums(hold(8)), sums(hold(8))), [][]int{{1, 2, 3}, {1, 3, 6}, {1, 4, 10}}, []int{3, 6, 10}},
		{chain(sums(hold(8)), sums(hold(8)), sums(wrap(4)), sums(hold(5))), [][]int{{1, 2, 3, -9}, {1, 3, 6, -3}, {1, 4, 10, 7}, {1, 5, -1, 6}, {1, 6, 5, 11}}, []int{9, 6, 10, 6, 11}},
		{chain(none(hold(16)), none(wrap(16)), none(hold(2))), [][]int{{impl.MaxSample, -impl.MaxSample}, {32767, -32768}, {32767, -32768}, {1, -2}}, []int{impl.MaxSample, 32768, 32768, 2}},
		{chain(none(wrap(16)), none(hold(16))), [][]int{{impl.MaxSample, -impl.MaxSample}, {-31072, 31072}, {-31072, 31072}}, []int{impl.MaxSample, 31072, 31072}},
		{exampleParts(impl.RoundDown), [][]int{nil, nil, nil}, []int{0, 0, 0}},
		{chain(sums(hold(2))), [][]int{{}, {}}, []int{0, 0}},
	} {
		what := fmt.Sprint(c.parts, c.signals[0])
		list, ok := impl.RunChain(c.parts, c.signals[0])
		wantList(t, "run "+what, list, ok, c.signals[len(c.parts)])
		lists, ok := impl.ChainSignals(c.parts, c.signals[0])
		wantLists(t, "signals "+what, lists, ok, c.signals)
		list, ok = impl.PeaksInside(c.parts, c.signals[0])
		wantList(t, "peaks "+what, list, ok, c.peaks)
	}
}

func TestPromise7FirstChainFitByHand(t *testing.T) {
	for _, c := range []struct {
		parts []impl.First
		s     []int
		want  []int
	}{
		{chain(sums(hold(4))), []int{7, 0, 0}, nil},
		{chain(sums(hold(4))), []int{7, 0, 1}, []int{0, 2}},
		{chain(sums(wrap(4))), []int{-8, -1}, []int{0, 1}},
		{chain(sums(hold(4)), sums(hold(4))), []int{3, 0, 0}, []int{1, 2}}, // 3, 3, 3 and 3, 6, 9
		{chain(sums(hold(4)), sums(hold(4))), []int{3, 0}, nil},
		// Both at the same sample: 5, 10 and 5, 12.
		{chain(sums(hold(4)), sums(hold(4))), []int{5, 5}, []int{0, 1}},
		{chain(none(hold(4)), none(hold(3))), []int{9}, []int{0, 0}},
		// What the first part has fitted is a number of the next one.
		{chain(none(hold(4)), none(wrap(4))), []int{0, 8}, []int{0, 1}},
		{chain(none(wrap(4)), none(hold(2)), none(hold(4))), []int{0, 17, 0}, []int{0, 1}},
		// A later part, at an earlier sample.
		{chain(none(hold(4)), none(hold(2))), []int{3, 9}, []int{1, 0}},
		{chain(none(hold(5)), none(hold(4)), none(wrap(3)), none(hold(2))), []int{0, 1, 2, 4, 8, 16}, []int{3, 2}},
		{chain(none(hold(5)), none(hold(4)), none(wrap(3)), none(hold(2))), []int{0, 1, 4, 16}, []int{2, 2}},
		{chain(none(hold(5)), none(hold(4)), none(wrap(3)), none(hold(2))), []int{1, 8, 16}, []int{1, 1}},
		{chain(none(hold(5)), none(hold(4)), none(wrap(3)), none(hold(2))), []int{16, 2}, []int{0, 0}},
		{chain(none(hold(5)), none(hold(4)), none(wrap(3)), none(hold(2))), []int{1, -2, 1, 0}, nil},
		{exampleParts(impl.RoundDown), []int{3, 0, 0}, nil},
		{exampleParts(impl.RoundDown), nil, nil},
		{chain(none(hold(16))), repeat(32767, impl.MaxSignal), nil},
		{chain(none(hold(16))), append(repeat(32767, impl.MaxSignal-1), 32768), []int{0, impl.MaxSignal - 1}},
	} {
		list, ok := impl.FirstChainFit(c.parts, c.s)
		wantListIf(t, fmt.Sprint("fit ", c), list, ok, c.want, c.want != nil)
	}
}

func checkChain(t *testing.T, parts []impl.First, s []int) {
	t.Helper()
	what := fmt.Sprint(parts, s)
	inside := insideBy(t, parts, s)
	lists, ok := impl.ChainSignals(parts, s)
	wantLists(t, "signals "+what, lists, ok, inside)
	list, ok := impl.RunChain(parts, s)
	wantList(t, "run "+what, list, ok, inside[len(parts)])
	var peaks []int
	for _, signal := range inside {
		peak, ok := impl.PeakOf(signal)
		if !ok {
			t.Fatal("no signal inside:", what)
		}
		peaks = append(peaks, peak)
	}
	list, ok = impl.PeaksInside(parts, s)
	wantList(t, "peaks "+what, list, ok, peaks)
	fit := fitBy(t, parts, s)
	list, ok = impl.FirstChainFit(parts, s)
	wantListIf(t, "fit "+what, list, ok, fit, fit != nil)
}

func TestPromise7Chains(t *testing.T) {
	for _, parts := range goodChains() {
		for _, s := range goodSignals() {
			checkChain(t, parts, s)
		}
	}
	source := numberSource(71)
	for _, size := range []int{2, 9, 100, 5000, impl.MaxSample} {
		for length := 1; length <= impl.MaxParts; length++ {
			for range 30 {
				checkChain(t, source.someChain(length, 4, 2, 8), source.list(source.upTo(impl.MaxSignal), size))
				checkChain(t, source.someChain(length, 1024, 10, 16), source.list(source.upTo(impl.MaxSignal), size))
			}
		}
	}
}

// A cascade is a run with the numbers of another one, and one of one part a run.
func TestPromise7ChainsAreRuns(t *testing.T) {
	source := numberSource(72)
	for range 200 {
		parts := source.someChain(impl.MaxParts, 300, 8, 16)
		s := source.list(20, 1000)
		run := s
		for i, f := range parts {
			next, ok := impl.RunFirst(f, 0, run)
			if !ok {
				t.Fatal("no run", f, run)
			}
			list, ok := impl.RunChain(parts[:i+1], s)
			wantList(t, fmt.Sprint("run ", parts[:i+1], s), list, ok, next)
			run = next
		}
	}
}

func TestPromise7ChainsFail(t *testing.T) {
	for _, parts := range badChains() {
		for _, s := range [][]int{nil, {}, {0}, {3, -1, 4}} {
			checkNoChain(t, parts, s)
		}
		checkNoChain(t, parts, repeat(0, impl.MaxSignal+1))
	}
	for _, parts := range goodChains() {
		for _, s := range badSignals() {
			checkNoChain(t, parts, s)
		}
		for _, x := range badSamples {
			checkNoChain(t, parts, []int{0, x})
			checkNoChain(t, parts, append(repeat(0, impl.MaxSignal-1), x))
		}
	}
}
