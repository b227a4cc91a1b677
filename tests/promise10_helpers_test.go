package tests

import (
	"fmt"
	"regexp"
	"slices"
	"strconv"
	"strings"
	"testing"

	"loop.example/g01198/impl"
)

// What the tests of promise 10 share: lines read by patterns alone, and the calls
// that they name.

var plainNumber = regexp.MustCompile(`^(0|[1-9][0-9]{0,5})$`)
var signedNumber = regexp.MustCompile(`^(0|-?[1-9][0-9]{0,5})$`)
var numberList = regexp.MustCompile(`^(-|(0|-?[1-9][0-9]{0,5})(,(0|-?[1-9][0-9]{0,5})){0,63})$`)

// told are the words of a line behind the first one.
type told struct {
	n    []int
	s    []int
	wrap bool
}

// spoken is a line of the table: the kinds of the words behind the first one, and
// what it does with a desk. Its calls may fail.
type spoken struct {
	kinds string
	does  func(d impl.Desk, o told) (impl.Desk, string, bool)
}

func desk(w impl.Word, s ...int) impl.Desk {
	return impl.Desk{Signal: s, Word: w}
}

// exampleDesk is the desk at first.
func exampleDesk() impl.Desk {
	return desk(wrap(4), 3, -1, 4)
}

// listBy writes numbers as the printing of lists does, but with commas.
func listBy(list []int) string {
	if len(list) == 0 {
		return "-"
	}
	return strings.ReplaceAll(strings.Trim(fmt.Sprint(list), "[]"), " ", ",")
}

func wordBy(w impl.Word) string {
	return fmt.Sprint(w.Bits) + map[bool]string{true: " wrap", false: " hold"}[w.Wrap]
}

func become(d impl.Desk, s []int, ok bool) (impl.Desk, string, bool) {
	return impl.Desk{Signal: s, Word: d.Word}, listBy(s), ok
}

func tellList(d impl.Desk, list []int, ok bool) (impl.Desk, string, bool) {
	return d, listBy(list), ok
}

func tellNumber(d impl.Desk, x int, ok bool) (impl.Desk, string, bool) {
	return d, strconv.Itoa(x), ok
}

// changing are the lines that have an effect on the signal or the word.
func changing() map[string]spoken {
	withSignal := func(kinds string, made func(d impl.Desk, o told) ([]int, bool)) spoken {
		return spoken{kinds, func(d impl.Desk, o told) (impl.Desk, string, bool) {
			s, ok := made(d, o)
			return become(d, s, ok)
		}}
	}
	return map[string]spoken{
		"signal": withSignal("S", func(_ impl.Desk, o told) ([]int, bool) { return o.s, true }),
		"fit":    withSignal("", func(d impl.Desk, _ told) ([]int, bool) { return impl.FitSignal(d.Word, d.Signal) }),
		"sums":   withSignal("", func(d impl.Desk, _ told) ([]int, bool) { return impl.RunningSums(d.Signal) }),
		"diffs":  withSignal("", func(d impl.Desk, _ told) ([]int, bool) { return impl.DifferencesOf(d.Signal) }),
		"scale":  withSignal("I", func(d impl.Desk, o told) ([]int, bool) { return impl.ScaleSignal(d.Signal, o.n[0]) }),
		"weigh":  withSignal("S", func(d impl.Desk, o told) ([]int, bool) { return impl.FilterSignal(o.s, d.Signal) }),
		"first": withSignal("IN", func(d impl.Desk, o told) ([]int, bool) {
			return impl.RunFirst(first(o.n[0], o.n[1], impl.RoundDown, d.Word), 0, d.Signal)
		}),
		"hold": withSignal("NN", func(d impl.Desk, o told) ([]int, bool) { return impl.HoldSamples(d.Signal, o.n[0], o.n[1]) }),
		"word": {"NW", func(d impl.Desk, o told) (impl.Desk, string, bool) {
			w := impl.Word{Bits: o.n[0], Wrap: o.wrap}
			return impl.Desk{Signal: d.Signal, Word: w}, wordBy(w), o.n[0] >= 2 && o.n[0] <= 16
		}},
	}
}

// asking are the lines that change nothing.
func asking() map[string]spoken {
	list := func(kinds string, made func(d impl.Desk, o told) ([]int, bool)) spoken {
		return spoken{kinds, func(d impl.Desk, o told) (impl.Desk, string, bool) {
			s, ok := made(d, o)
			return tellList(d, s, ok)
		}}
	}
	number := func(kinds string, made func(d impl.Desk, o told) (int, bool)) spoken {
		return spoken{kinds, func(d impl.Desk, o told) (impl.Desk, string, bool) {
			x, ok := made(d, o)
			return tellNumber(d, x, ok)
		}}
	}
	return map[string]spoken{
		"show":  list("", func(d impl.Desk, _ told) ([]int, bool) { return d.Signal, true }),
		"bits":  {"", func(d impl.Desk, _ told) (impl.Desk, string, bool) { return d, wordBy(d.Word), true }},
		"peak":  number("", func(d impl.Desk, _ told) (int, bool) { return impl.PeakOf(d.Signal) }),
		"sum":   number("", func(d impl.Desk, _ told) (int, bool) { return impl.SumOfSignal(d.Signal) }),
		"unfit": number("", func(d impl.Desk, _ told) (int, bool) { return impl.CountUnfit(d.Word, d.Signal) }),
		"ones":  list("N", func(d impl.Desk, o told) ([]int, bool) { return impl.OneBits(o.n[0], d.Signal) }),
		"comb":  list("NN", func(d impl.Desk, o told) ([]int, bool) { return impl.ExactComb(d.Signal, o.n[0], o.n[1]) }),
		"four":  list("", func(d impl.Desk, _ told) ([]int, bool) { return impl.FourPowers(d.Signal) }),
		"six":   list("", func(d impl.Desk, _ told) ([]int, bool) { return impl.SixPowers(d.Signal) }),
		"steps": list("N", func(d impl.Desk, o told) ([]int, bool) { return impl.StepBits(d.Signal, o.n[0]) }),
		"cycles": number("IN", func(d impl.Desk, o told) (int, bool) {
			cycles, ok := impl.CyclesOfFirst(first(o.n[0], o.n[1], impl.RoundDown, d.Word), 0)
			return len(cycles), ok
		}),
	}
}

// spokenLines are all lines of the table.
func spokenLines() map[string]spoken {
	lines := changing()
	for name, line := range asking() {
		lines[name] = line
	}
	return lines
}

// commands are their first words, always in the same order.
func commands() []string {
	var names []string
	for name := range spokenLines() {
		names = append(names, name)
	}
	slices.Sort(names)
	return names
}

func numberBy(word string) int {
	x, _ := strconv.Atoi(word)
	return x
}

// signalBy reads numbers with commas between them, whatever their sizes.
func signalBy(word string) []int {
	var s []int
	for _, part := range strings.FieldsFunc(word, func(r rune) bool { return r == ',' }) {
		if part != "-" {
			s = append(s, numberBy(part))
		}
	}
	return s
}

// toldBy reads the words of such kinds. It fails if one of them is none.
func toldBy(words []string, kinds string) (told, bool) {
	var o told
	if len(words) != len(kinds) {
		return o, false
	}
	understood := true
	for i, kind := range kinds {
		word := words[i]
		switch kind {
		case 'N':
			understood = understood && plainNumber.MatchString(word)
			o.n = append(o.n, numberBy(word))
		case 'I':
			understood = understood && signedNumber.MatchString(word)
			o.n = append(o.n, numberBy(word))
		case 'S':
			o.s = signalBy(word)
			understood = understood && numberList.MatchString(word) && greatestBy(o.s) <= maxSample
		case 'W':
			understood = understood && (word == "wrap" || word == "hold")
			o.wrap = word == "wrap"
		}
	}
	return o, understood
}

// lineBy executes a line by the table alone.
func lineBy(lines map[string]spoken, d impl.Desk, text string) (impl.Desk, string) {
	words := strings.Split(text, " ")
	line, isLine := lines[words[0]]
	o, understood := toldBy(words[1:], line.kinds)
	if !isLine || !understood {
		return d, "what"
	}
	after, reply, ok := line.does(d, o)
	if !ok {
		return d, "no"
	}
	return after, reply
}

// scriptBy executes lines one by one, at first on the desk of the example.
func scriptBy(lines []string) (after impl.Desk, replies []string, failed []int) {
	after = exampleDesk()
	for i, text := range lines {
		var reply string
		after, reply = lineBy(spokenLines(), after, text)
		replies = append(replies, reply)
		if reply == "no" || reply == "what" {
			failed = append(failed, i+1)
		}
	}
	return after, replies, failed
}

func scriptOf(lines []string) string {
	script := ""
	for _, line := range lines {
		script += line + "\n"
	}
	return script
}

func isSameDesk(a impl.Desk, b impl.Desk) bool {
	return a.Word == b.Word && slices.Equal(a.Signal, b.Signal)
}

// goodDesks meet each limit, with words that hold and that wrap.
func goodDesks() []impl.Desk {
	desks := []impl.Desk{exampleDesk(), desk(hold(4), 7, 7, -8, 8, -9)}
	for i, s := range goodSignals() {
		words := goodWords()
		desks = append(desks, desk(words[i], s...), desk(words[len(words)-1-i], s...))
	}
	return desks
}

// badDesks have a signal that is none, or a word that is none, or both.
func badDesks() []impl.Desk {
	desks := []impl.Desk{{}, desk(impl.Word{}, 3, -1, 4)}
	for _, s := range badSignals() {
		desks = append(desks, desk(wrap(4), s...), desk(hold(16), s...), desk(hold(17), s...))
	}
	for _, w := range badWords {
		desks = append(desks, desk(w, 3, -1, 4), desk(w))
	}
	return desks
}

// askLine wants a line's reply, and the desk behind it.
func askLine(t *testing.T, d impl.Desk, line string, wantDesk impl.Desk, wantReply string) {
	t.Helper()
	after, reply, ok := impl.DeskLine(d, line)
	if !ok || reply != wantReply || !isSameDesk(after, wantDesk) {
		t.Errorf("%v, line %q: got %v, %q, %v, want %v, %q", d, line, after, reply, ok, wantDesk, wantReply)
	}
}

func wantNoLine(t *testing.T, d impl.Desk, line string) {
	t.Helper()
	after, reply, ok := impl.DeskLine(d, line)
	if ok || reply != "" || after.Word != (impl.Word{}) || len(after.Signal) != 0 {
		t.Errorf("%v, line %.50q: got %v, %q, %v, want failure", d, line, after, reply, ok)
	}
}

// askScript wants what all calls tell of a script with such lines.
func askScript(t *testing.T, lines []string) {
	t.Helper()
	script := scriptOf(lines)
	wantDesk, wantReplies, wantFailed := scriptBy(lines)
	replies, ok := impl.RunScript(script)
	if !ok || !slices.Equal(replies, wantReplies) {
		t.Errorf("script %q: got %q, %v, want %q", script, replies, ok, wantReplies)
	}
	after, ok := impl.DeskAfter(script)
	if !ok || !isSameDesk(after, wantDesk) {
		t.Errorf("script %q: got %v, %v, want %v", script, after, ok, wantDesk)
	}
	failed, ok := impl.FailedLines(script)
	wantList(t, fmt.Sprintf("failed lines of %q", script), failed, ok, wantFailed)
}

// wantNoScript wants failure of all calls, of a text that is no script.
func wantNoScript(t *testing.T, script string) {
	t.Helper()
	if replies, ok := impl.RunScript(script); ok || len(replies) != 0 {
		t.Errorf("no script %.50q: got %q, %v", script, replies, ok)
	}
	if after, ok := impl.DeskAfter(script); ok || after.Word != (impl.Word{}) || len(after.Signal) != 0 {
		t.Errorf("no script %.50q: got %v, %v", script, after, ok)
	}
	failed, ok := impl.FailedLines(script)
	wantNoList(t, fmt.Sprintf("failed lines of %.50q", script), failed, ok)
}
