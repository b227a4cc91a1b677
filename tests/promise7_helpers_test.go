package tests

import (
	"fmt"
	"math/big"
	"slices"
	"testing"

	"loop.example/g01198/impl"
)

// What the tests of promise 7 share: parts, and their cascades by the definition
// alone.

func chain(parts ...impl.First) []impl.First {
	return parts
}

// exampleParts are those of the document's example, with a mode.
func exampleParts(mode int) []impl.First {
	return chain(first(1, 1, mode, hold(8)), first(-1, 1, mode, hold(8)))
}

// goodChains meet each limit exactly, among ordinary ones.
func goodChains() [][]impl.First {
	greatest := first(1024, 10, impl.RoundNear, hold(16))
	least := first(-1024, 0, impl.RoundZero, wrap(2))
	return [][]impl.First{
		exampleParts(impl.RoundDown),
		exampleParts(impl.RoundNear),
		exampleParts(impl.RoundZero),
		chain(first(0, 0, impl.RoundDown, hold(2))),
		chain(greatest),
		chain(least),
		chain(greatest, greatest, greatest, greatest),
		chain(least, least, least, least),
		chain(first(1, 0, impl.RoundDown, hold(4)), first(1, 0, impl.RoundDown, wrap(3))),
		chain(first(0, 0, impl.RoundDown, wrap(16)), first(1, 1, impl.RoundNear, hold(5)), first(-3, 2, impl.RoundZero, wrap(7))),
		chain(first(3, 1, impl.RoundZero, hold(9)), first(-1, 0, impl.RoundDown, wrap(4)), first(1, 2, impl.RoundNear, hold(16)), first(1, 0, impl.RoundDown, hold(6))),
		chain(first(1, 0, impl.RoundDown, wrap(4)), first(0, 0, impl.RoundDown, hold(3)), first(-1, 0, impl.RoundDown, hold(4)), first(1, 1, impl.RoundNear, wrap(3))),
	}
}

// badChains have no part, one too many, or a part that is no filter in each place.
func badChains() [][]impl.First {
	good := first(1, 1, impl.RoundDown, hold(4))
	chains := [][]impl.First{nil, {}, slices.Repeat(chain(good), impl.MaxParts+1), slices.Repeat(chain(good), 100), {{}}}
	for _, f := range badFirsts() {
		for length := 1; length <= impl.MaxParts; length++ {
			for place := range length {
				parts := slices.Repeat(chain(good), length)
				parts[place] = f
				chains = append(chains, parts)
			}
		}
	}
	return chains
}

// someChain makes parts whose A, shifts and bits are at most told ones.
func (n *numberSource) someChain(parts int, a int, shift int, bits int) []impl.First {
	var list []impl.First
	for range parts {
		w := impl.Word{Bits: 2 + n.upTo(bits-2), Wrap: n.upTo(1) == 1}
		list = append(list, first(n.next(a), n.upTo(shift), n.upTo(2), w))
	}
	return list
}

// upTo returns a number in 0..greatest.
func (n *numberSource) upTo(greatest int) int {
	x := n.next(greatest)
	return max(x, -x)
}

// insideBy makes the signal and the numbers that each part makes by the
// definition alone.
func insideBy(t *testing.T, parts []impl.First, s []int) [][]int {
	t.Helper()
	signals := [][]int{s}
	for i, f := range parts {
		run, _ := ran(t, f, 0, signals[i])
		signals = append(signals, run)
	}
	return signals
}

func outputBy(t *testing.T, parts []impl.First, s []int) []int {
	t.Helper()
	return insideBy(t, parts, s)[len(parts)]
}

// fitBy finds the part and the sample that FirstChainFit tells, by the definition
// alone, or none.
func fitBy(t *testing.T, parts []impl.First, s []int) []int {
	t.Helper()
	last := make([]int, len(parts))
	for n, x := range s {
		for i, f := range parts {
			unfitted, y := stepped(t, f, last[i], x)
			if unfitted != y {
				return []int{i, n}
			}
			last[i], x = y, y
		}
	}
	return nil
}

// ratiosBy makes what each part makes without rounding and fitting.
func ratiosBy(parts []impl.First, s []int) [][]*big.Rat {
	var inside [][]*big.Rat
	last := make([]*big.Rat, len(s))
	for n, x := range s {
		last[n] = big.NewRat(int64(x), 1)
	}
	for _, f := range parts {
		y, run := new(big.Rat), make([]*big.Rat, len(s))
		for n, x := range last {
			y = new(big.Rat).Mul(y, big.NewRat(int64(f.A), int64(1)<<f.Shift))
			run[n] = y.Add(y, x)
		}
		inside = append(inside, run)
		last = run
	}
	return inside
}

// scaleBy is 2^(n shift), n counted from 1.
func scaleBy(parts []impl.First, n int) *big.Rat {
	shift := 0
	for _, f := range parts {
		shift += f.Shift
	}
	return new(big.Rat).SetInt(new(big.Int).Lsh(big.NewInt(1), uint(n*shift)))
}

// exactChainBy makes exact numbers by the definition alone.
func exactChainBy(t *testing.T, parts []impl.First, s []int) ([]int, bool) {
	t.Helper()
	limit := big.NewRat(impl.MaxNumber, 1)
	exact, inside := make([]int, len(s)), ratiosBy(parts, s)
	for n := range s {
		scale := scaleBy(parts, n+1)
		if scale.Cmp(limit) > 0 {
			return nil, false
		}
		for _, run := range inside {
			number := new(big.Rat).Mul(run[n], scale)
			if !number.IsInt() {
				t.Fatal("an exact number is not whole:", parts, s, number)
			}
			if new(big.Rat).Abs(number).Cmp(limit) > 0 {
				return nil, false
			}
			exact[n] = int(number.Num().Int64())
		}
	}
	return exact, true
}

// errorBy makes the error of a cascade by the definition alone.
func errorBy(t *testing.T, parts []impl.First, s []int) (*big.Rat, bool) {
	t.Helper()
	greatest := new(big.Rat)
	if _, ok := exactChainBy(t, parts, s); !ok {
		return nil, false
	}
	output, inside := outputBy(t, parts, s), ratiosBy(parts, s)
	for n, y := range output {
		d := big.NewRat(int64(y), 1)
		d.Sub(d, inside[len(parts)-1][n]).Abs(d)
		if d.Cmp(greatest) > 0 {
			greatest = d
		}
	}
	return greatest, true
}

// ordersBy are all orders of so many parts, lexicographically.
func ordersBy(parts int) [][]int {
	var indices []int
	for i := range parts {
		indices = append(indices, i)
	}
	var orders [][]int
	eachList(parts, indices, func(list []int) {
		if slices.Equal(slices.Sorted(slices.Values(list)), indices) {
			orders = append(orders, slices.Clone(list))
		}
	})
	return orders
}

func orderedBy(parts []impl.First, order []int) []impl.First {
	var ordered []impl.First
	for _, i := range order {
		ordered = append(ordered, parts[i])
	}
	return ordered
}

func wantParts(t *testing.T, what string, got []impl.First, ok bool, want []impl.First) {
	t.Helper()
	if !slices.Equal(got, want) || !ok {
		t.Errorf("%s: got %v, %v, want %v", what, got, ok, want)
	}
}

func wantNoParts(t *testing.T, what string, got []impl.First, ok bool) {
	t.Helper()
	if len(got) != 0 || ok {
		t.Errorf("%s: got %v, %v, want failure", what, got, ok)
	}
}

// checkNoChain wants failure of all calls with parts and a signal of which one
// is none.
func checkNoChain(t *testing.T, parts []impl.First, s []int) {
	t.Helper()
	what := fmt.Sprint(parts, s)
	list, ok := impl.RunChain(parts, s)
	wantNoList(t, "run "+what, list, ok)
	lists, ok := impl.ChainSignals(parts, s)
	wantNoLists(t, "signals "+what, lists, ok)
	list, ok = impl.PeaksInside(parts, s)
	wantNoList(t, "peaks "+what, list, ok)
	list, ok = impl.FirstChainFit(parts, s)
	wantNoList(t, "fit "+what, list, ok)
	n, ok := impl.CountOutputs(parts, s)
	wantNoNumber(t, "outputs "+what, n, ok)
	checkNoExactChain(t, parts, s)
}

// checkNoExactChain wants failure of all calls that make exact numbers.
func checkNoExactChain(t *testing.T, parts []impl.First, s []int) {
	t.Helper()
	what := fmt.Sprint(parts, s)
	list, ok := impl.ExactChain(parts, s)
	wantNoList(t, "exact "+what, list, ok)
	a, b, ok := impl.ChainError(parts, s)
	wantNoTwo(t, "error "+what, a, b, ok)
	a, b, ok = impl.OrderError(parts, s, ordersBy(min(len(parts), impl.MaxParts))[0])
	wantNoTwo(t, "order error "+what, a, b, ok)
	list, ok = impl.BestOrder(parts, s)
	wantNoList(t, "best order "+what, list, ok)
}
