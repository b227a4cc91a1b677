package tests

import (
	"fmt"
	"slices"
	"strings"
	"testing"

	"loop.example/g01198/impl"
)

// Promise 1: sums of signals are undone.

func TestPromise1IsSignal(t *testing.T) {
	for _, s := range goodSignals() {
		if !impl.IsSignal(s) {
			t.Error("no signal:", s)
		}
	}
	for _, s := range badSignals() {
		if impl.IsSignal(s) {
			t.Error("a signal:", s)
		}
	}
}

func TestPromise1FitSignal(t *testing.T) {
	for _, w := range goodWords() {
		for _, s := range goodSignals() {
			want, unfit := make([]int, len(s)), 0
			for i, x := range s {
				want[i] = fitted(w, x)
				if want[i] != x {
					unfit++
				}
			}
			what := fmt.Sprint("fit ", w, s)
			list, ok := impl.FitSignal(w, s)
			wantList(t, what, list, ok, want)
			n, ok := impl.CountUnfit(w, s)
			wantNumber(t, what, n, ok, unfit)
		}
	}
	list, ok := impl.FitSignal(impl.Word{Bits: 4, Wrap: true}, []int{7, 8, 9, -8, -9, 100000})
	wantList(t, "wrapped", list, ok, []int{7, -8, -7, -8, 7, 0})
	list, ok = impl.FitSignal(impl.Word{Bits: 4}, []int{7, 8, 9, -8, -9, 100000})
	wantList(t, "held", list, ok, []int{7, 7, 7, -8, -8, 7})
	for _, wrap := range []bool{false, true} {
		n, ok := impl.CountUnfit(impl.Word{Bits: 4, Wrap: wrap}, []int{7, 8, 9, -8, -9, 100000, 16})
		wantNumber(t, "unfit", n, ok, 5)
	}
}

func TestPromise1FitSignalFails(t *testing.T) {
	for _, w := range badWords {
		list, ok := impl.FitSignal(w, []int{1})
		wantNoList(t, fmt.Sprint("fit ", w), list, ok)
		n, ok := impl.CountUnfit(w, []int{1})
		wantNoNumber(t, fmt.Sprint("unfit ", w), n, ok)
	}
	for _, s := range badSignals() {
		list, ok := impl.FitSignal(impl.Word{Bits: 8}, s)
		wantNoList(t, fmt.Sprint("fit ", s), list, ok)
		n, ok := impl.CountUnfit(impl.Word{Bits: 8}, s)
		wantNoNumber(t, fmt.Sprint("unfit ", s), n, ok)
	}
}

func TestPromise1Totals(t *testing.T) {
	for _, c := range []struct {
		s                 []int
		sum, energy, peak int
	}{
		{nil, 0, 0, 0},
		{[]int{}, 0, 0, 0},
		{[]int{3, -1, 4}, 6, 26, 4},
		{[]int{3, -5, 4}, 2, 50, 5},
		{[]int{-2}, -2, 4, 2},
		{[]int{0, 0}, 0, 0, 0},
		{[]int{impl.MaxSample, -impl.MaxSample}, 0, 20000000000, impl.MaxSample},
		{repeat(impl.MaxSample, 64), 6400000, 640000000000, impl.MaxSample},
		{repeat(-impl.MaxSample, 64), -6400000, 640000000000, impl.MaxSample},
		{repeat(99999, 64), 6399936, 639987200064, 99999},
		{repeat(-99999, 63), -6299937, 629987400063, 99999},
	} {
		what := fmt.Sprint(c.s)
		n, ok := impl.SumOfSignal(c.s)
		wantNumber(t, "sum "+what, n, ok, c.sum)
		n, ok = impl.EnergyOf(c.s)
		wantNumber(t, "energy "+what, n, ok, c.energy)
		n, ok = impl.PeakOf(c.s)
		wantNumber(t, "peak "+what, n, ok, c.peak)
	}
	for _, s := range badSignals() {
		what := fmt.Sprint(s)
		n, ok := impl.SumOfSignal(s)
		wantNoNumber(t, "sum "+what, n, ok)
		n, ok = impl.EnergyOf(s)
		wantNoNumber(t, "energy "+what, n, ok)
		n, ok = impl.PeakOf(s)
		wantNoNumber(t, "peak "+what, n, ok)
	}
}

func TestPromise1AddSignals(t *testing.T) {
	for _, c := range []struct{ a, b, want []int }{
		{nil, nil, nil},
		{nil, []int{1, 2}, []int{1, 2}},
		{[]int{1, 2, 3}, []int{10}, []int{11, 2, 3}},
		{[]int{-5}, []int{5, -6}, []int{0, -6}},
		{repeat(1, 64), repeat(2, 64), repeat(3, 64)},
		{[]int{50000, -99999}, []int{50000, -1}, []int{100000, -100000}},
		{repeat(impl.MaxSample, 64), repeat(-impl.MaxSample, 64), repeat(0, 64)},
	} {
		list, ok := impl.AddSignals(c.a, c.b)
		wantList(t, fmt.Sprint("add ", c), list, ok, c.want)
		list, ok = impl.AddSignals(c.b, c.a)
		wantList(t, fmt.Sprint("add back ", c), list, ok, c.want)
	}
	for _, c := range [][2][]int{
		{{50000}, {50001}},
		{{0, -100000}, {0, -1}},
		{repeat(impl.MaxSample, 64), repeat(impl.MaxSample, 64)},
	} {
		list, ok := impl.AddSignals(c[0], c[1])
		wantNoList(t, fmt.Sprint("add ", c), list, ok)
	}
	for _, s := range badSignals() {
		list, ok := impl.AddSignals(s, []int{-1})
		wantNoList(t, fmt.Sprint("add ", s), list, ok)
		list, ok = impl.AddSignals([]int{-1}, s)
		wantNoList(t, fmt.Sprint("add back ", s), list, ok)
	}
}

func TestPromise1ScaleSignal(t *testing.T) {
	for _, c := range []struct {
		s    []int
		k    int
		want []int
	}{
		{nil, 1000, nil},
		{[]int{3, -1, 4}, 2, []int{6, -2, 8}},
		{[]int{3, -1, 4}, -1, []int{-3, 1, -4}},
		{[]int{3, -1, 4}, 0, []int{0, 0, 0}},
		{[]int{100, -100}, 1000, []int{100000, -100000}},
		{[]int{100, -100}, -1000, []int{-100000, 100000}},
		{repeat(impl.MaxSample, 64), -1, repeat(-impl.MaxSample, 64)},
		{[]int{99999}, 1, []int{99999}},
	} {
		list, ok := impl.ScaleSignal(c.s, c.k)
		wantList(t, fmt.Sprint("scale ", c), list, ok, c.want)
	}
	for _, c := range []struct {
		s []int
		k int
	}{
		{[]int{101}, 1000},
		{[]int{0, 101}, -1000},
		{[]int{50001}, 2},
		{[]int{50001}, -2},
		{repeat(impl.MaxSample, 64), 1000},
		{nil, 1001},
		{[]int{0}, -1001},
		{[]int{0}, maxInt},
		{[]int{0}, minInt},
	} {
		list, ok := impl.ScaleSignal(c.s, c.k)
		wantNoList(t, fmt.Sprint("scale ", c), list, ok)
	}
	for _, s := range badSignals() {
		for _, k := range []int{0, 1} {
			list, ok := impl.ScaleSignal(s, k)
			wantNoList(t, fmt.Sprint("scale ", s, k), list, ok)
		}
	}
}

func TestPromise1DelaySignal(t *testing.T) {
	for _, c := range []struct {
		s    []int
		d    int
		want []int
	}{
		{nil, 0, nil},
		{nil, 64, repeat(0, 64)},
		{[]int{3, -1}, 0, []int{3, -1}},
		{[]int{3, -1}, 2, []int{0, 0, 3, -1}},
		{[]int{5}, 63, append(repeat(0, 63), 5)},
		{repeat(5, 64), 0, repeat(5, 64)},
	} {
		list, ok := impl.DelaySignal(c.s, c.d)
		wantList(t, fmt.Sprint("delay ", c), list, ok, c.want)
	}
	for _, c := range []struct {
		s []int
		d int
	}{
		{[]int{5}, 64},
		{repeat(5, 64), 1},
		{repeat(0, 33), 32},
		{nil, 65},
		{nil, -1},
		{[]int{5}, -1},
		{[]int{5}, maxInt},
		{[]int{5}, minInt},
	} {
		list, ok := impl.DelaySignal(c.s, c.d)
		wantNoList(t, fmt.Sprint("delay ", c), list, ok)
	}
	for _, s := range badSignals() {
		list, ok := impl.DelaySignal(s, 0)
		wantNoList(t, fmt.Sprint("delay ", s), list, ok)
	}
}

func TestPromise1SumsAndDifferences(t *testing.T) {
	for _, c := range []struct{ s, sums []int }{
		{nil, nil},
		{[]int{-7}, []int{-7}},
		{[]int{3, -1, 4}, []int{3, 2, 6}},
		{[]int{100000, -100000, -100000}, []int{100000, 0, -100000}},
		{repeat(0, 64), repeat(0, 64)},
		{append([]int{99999}, repeat(0, 63)...), repeat(99999, 64)},
	} {
		list, ok := impl.RunningSums(c.s)
		wantList(t, fmt.Sprint("sums ", c.s), list, ok, c.sums)
		list, ok = impl.DifferencesOf(c.sums)
		wantList(t, fmt.Sprint("differences ", c.sums), list, ok, c.s)
	}
	list, ok := impl.DifferencesOf([]int{50000, -50000, 50000})
	wantList(t, "differences", list, ok, []int{50000, -100000, 100000})
}

func TestPromise1SumsAreUndone(t *testing.T) {
	source := numberSource(1)
	for length := 0; length <= impl.MaxSignal; length++ {
		s := source.list(length, 1500)
		sums, ok := impl.RunningSums(s)
		if !ok {
			t.Fatal("no sums of", s)
		}
		list, ok := impl.DifferencesOf(sums)
		wantList(t, "differences of sums", list, ok, s)
		differences, ok := impl.DifferencesOf(s)
		if !ok {
			t.Fatal("no differences of", s)
		}
		list, ok = impl.RunningSums(differences)
		wantList(t, "sums of differences", list, ok, s)
		sum, ok := impl.SumOfSignal(differences)
		if length > 0 {
			wantNumber(t, "sum of differences", sum, ok, s[length-1])
		}
	}
}

func TestPromise1SumsAndDifferencesFail(t *testing.T) {
	for _, s := range [][]int{{100000, 1}, {-1, -100000, 100000}, {60000, 40001, -50000}, repeat(impl.MaxSample, 64)} {
		list, ok := impl.RunningSums(s)
		wantNoList(t, fmt.Sprint("sums ", s), list, ok)
	}
	for _, s := range [][]int{{50001, -50000}, {-1, 100000}, {100000, -1, 0}} {
		list, ok := impl.DifferencesOf(s)
		wantNoList(t, fmt.Sprint("differences ", s), list, ok)
	}
	for _, s := range badSignals() {
		list, ok := impl.RunningSums(s)
		wantNoList(t, fmt.Sprint("sums ", s), list, ok)
		list, ok = impl.DifferencesOf(s)
		wantNoList(t, fmt.Sprint("differences ", s), list, ok)
	}
	// The sums of this are those of a signal, though it is none itself.
	list, ok := impl.RunningSums([]int{-100000, 100001})
	wantNoList(t, "sums", list, ok)
}

func TestPromise1Texts(t *testing.T) {
	for text, s := range map[string][]int{
		"-":                 nil,
		"0":                 {0},
		"3,-1,4":            {3, -1, 4},
		"100000,-100000":    {100000, -100000},
		"-10,0,10":          {-10, 0, 10},
		"0,0":               {0, 0},
		strings64("-99999"): repeat(-99999, 64),
	} {
		got, ok := impl.SignalText(s)
		if got != text || !ok {
			t.Errorf("text of %v: %q, %v", s, got, ok)
		}
		list, ok := impl.ParseSignal(text)
		wantList(t, "parse "+text, list, ok, s)
	}
	for _, s := range goodSignals() {
		text, ok := impl.SignalText(s)
		list, parsed := impl.ParseSignal(text)
		if !ok || !parsed || !slices.Equal(list, s) {
			t.Error(s, text, list)
		}
	}
	for _, s := range badSignals() {
		if text, ok := impl.SignalText(s); text != "" || ok {
			t.Error(s, text, ok)
		}
	}
}

func strings64(part string) string {
	return strings.Repeat(part+",", 63) + part
}

func TestPromise1ParseSignalFails(t *testing.T) {
	for _, text := range []string{
		"", " ", ",", "--", "-,", ",-", "-,-", "1,-", "-,1", "1,", ",1", "1,,2", "1, 2", " 1", "1 ", "1\n", "\t1",
		"+1", "-0", "00", "01", "-01", "1,-0", "1,+2", "1.0", "1e3", "0x1", "1_0", "a", "1;2", "1 2", "\x00", "1\x00", "٣", "\xff",
		"100001", "-100001", "1,100001", "99999999999999999999", "-9223372036854775809", "0100000",
		strings64("1") + ",1", strings64("1") + ",", "-," + strings64("1"), strings.Repeat(",", 64), strings.Repeat("1,", 100000), strings.Repeat("9", 100000),
	} {
		list, ok := impl.ParseSignal(text)
		wantNoList(t, fmt.Sprintf("parse %.40q", text), list, ok)
	}
}
