package tests

import (
	"fmt"
	"math/big"
	"testing"

	"loop.example/g01198/impl"
)

// What the tests of promise 8 share: ratios, and signals behind them by the
// definition alone.

var badTerms = []int{minInt, -impl.MaxRatio, -1, 0, impl.MaxRatio + 1, 64, maxInt}

var badLengths = []int{minInt, -1, impl.MaxSignal + 1, 1000, maxInt}

// eachRatio calls visit with all ratios there are.
func eachRatio(visit func(p int, q int)) {
	for p := 1; p <= impl.MaxRatio; p++ {
		for q := 1; q <= impl.MaxRatio; q++ {
			visit(p, q)
		}
	}
}

// badRatios have a number that is none in one place or the other, or in both.
func badRatios() [][2]int {
	var ratios [][2]int
	for _, bad := range badTerms {
		for good := 1; good <= impl.MaxRatio; good++ {
			ratios = append(ratios, [2]int{bad, good}, [2]int{good, bad})
		}
		for _, other := range badTerms {
			ratios = append(ratios, [2]int{bad, other})
		}
	}
	return ratios
}

// rateSignals have each length there is, and meet each limit exactly.
func rateSignals() [][]int {
	source := numberSource(80)
	signals := goodSignals()
	for length := 0; length <= impl.MaxSignal; length++ {
		signals = append(signals, source.list(length, 9), source.list(length, impl.MaxSample/impl.MaxRatio))
	}
	return append(signals,
		[]int{0, 6, 12},
		[]int{impl.MaxSample, -impl.MaxSample, -impl.MaxSample, impl.MaxSample},
		source.list(3, impl.MaxSample),
		source.list(8, impl.MaxSample/3),
		source.list(20, 30000),
	)
}

// placeBy is the place of the sample i of a signal behind a ratio.
func placeBy(i int, p int, q int) *big.Rat {
	return big.NewRat(int64(i)*int64(q), int64(p))
}

// sourceBy finds the last index at or before a place.
func sourceBy(place *big.Rat) int {
	source := 0
	for big.NewRat(int64(source+1), 1).Cmp(place) <= 0 {
		source++
	}
	return source
}

// ratedBy makes a signal behind a ratio by the definition alone: of each sample
// whose source is less than n, told by its source and by how far behind this its
// place is.
func ratedBy(n int, p int, q int, made func(source int, behind *big.Rat) int) []int {
	list := []int{}
	for i := 0; ; i++ {
		place := placeBy(i, p, q)
		source := sourceBy(place)
		if source >= n {
			return list
		}
		list = append(list, made(source, place.Sub(place, big.NewRat(int64(source), 1))))
	}
}

func heldBy(s []int, p int, q int) []int {
	return ratedBy(len(s), p, q, func(source int, _ *big.Rat) int { return s[source] })
}

func nearBy(s []int, p int, q int) []int {
	return ratedBy(len(s), p, q, func(source int, behind *big.Rat) int {
		if source == len(s)-1 || behind.Cmp(big.NewRat(1, 2)) < 0 {
			return s[source]
		}
		return s[source+1]
	})
}

func linesBy(s []int, p int, q int) []int {
	return ratedBy(len(s), p, q, func(source int, behind *big.Rat) int {
		y := big.NewRat(int64(s[source]), 1)
		if source < len(s)-1 {
			rise := big.NewRat(int64(s[source+1]-s[source]), 1)
			y.Add(y, rise.Mul(rise, behind))
		}
		y.Mul(y, big.NewRat(int64(p), 1))
		if !y.IsInt() {
			panic("a line has no whole number of parts")
		}
		return int(y.Num().Int64())
	})
}

// phasesBy puts each weight into the phase that it belongs to.
func phasesBy(h []int, p int) [][]int {
	phases := make([][]int, p)
	for i, weight := range h {
		phases[i%p] = append(phases[i%p], weight)
	}
	return phases
}

// upDownBy puts zeros in, makes the answer, and drops, whatever the size.
func upDownBy(h []int, s []int, p int, q int) []int {
	stuffed := stuffedBy(s, p)
	return droppedBy(answered(h, stuffed)[:len(stuffed)], q, 0)
}

// productsBy counts the products of all places, and those of places that are kept
// and samples that are no zeros put in.
func productsBy(weights int, n int, p int, q int) (direct int, byPhases int) {
	for place := range n * p {
		for k := range weights {
			if k > place {
				continue
			}
			direct++
			if place%q == 0 && (place-k)%p == 0 {
				byPhases++
			}
		}
	}
	return direct, byPhases
}

// checkNoRate wants failure of all calls that make signals of a signal and a
// ratio of which one is none.
func checkNoRate(t *testing.T, s []int, p int, q int) {
	t.Helper()
	what := fmt.Sprint(s, p, q)
	list, ok := impl.HoldSamples(s, p, q)
	wantNoList(t, "held "+what, list, ok)
	list, ok = impl.NearSamples(s, p, q)
	wantNoList(t, "near "+what, list, ok)
	list, ok = impl.LineSamples(s, p, q)
	wantNoList(t, "lines "+what, list, ok)
}

// checkNoFilter wants failure of all calls that filter with weights, a signal and
// a ratio of which one is none, or too many for zeros to be put in.
func checkNoFilter(t *testing.T, h []int, s []int, p int, q int) {
	t.Helper()
	what := fmt.Sprint(h, s, p, q)
	list, ok := impl.UpFilterDown(h, s, p, q)
	wantNoList(t, "filtered "+what, list, ok)
	list, ok = impl.ByPhases(h, s, p, q)
	wantNoList(t, "by phases "+what, list, ok)
}

// checkNoProducts wants failure of all calls that count products.
func checkNoProducts(t *testing.T, h []int, n int, p int, q int) {
	t.Helper()
	what := fmt.Sprint(h, n, p, q)
	count, ok := impl.ProductsDirect(h, n, p, q)
	wantNoNumber(t, "products "+what, count, ok)
	count, ok = impl.ProductsByPhases(h, n, p, q)
	wantNoNumber(t, "products by phases "+what, count, ok)
}

func wantTwoLists(t *testing.T, what string, a []int, b []int, ok bool, wantA []int, wantB []int) {
	t.Helper()
	wantLists(t, what, [][]int{a, b}, ok, [][]int{wantA, wantB})
}

func wantNoTwoLists(t *testing.T, what string, a []int, b []int, ok bool) {
	t.Helper()
	wantNoList(t, what+": first", a, ok)
	wantNoList(t, what+": second", b, ok)
}
