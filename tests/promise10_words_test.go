package tests

import (
	"fmt"
	"strings"
	"testing"

	"loop.example/g01198/impl"
)

// Promise 10: the words of lines are numbers, texts of signals, and wrap or hold.

// numberWords are numbers at each limit, and words that are none.
var numberWords = []string{
	"0", "1", "2", "3", "4", "7", "8", "9", "10", "11", "12", "16", "17", "64", "100", "999", "1000", "1001", "1024", "1025", "4096", "4097", "99999", "100000", "999998", "999999",
	"1000000", "1000001", "9999999", "10000000000", "9223372036854775807", "9223372036854775808", "18446744073709551616", "18446744073709551617", "100000000000000000000000000",
	"-1", "-2", "-3", "-10", "-999", "-1000", "-1001", "-1024", "-1025", "-100000", "-999999", "-1000000", "-9223372036854775808", "-9223372036854775809", "-18446744073709551615",
	"00", "01", "007", "0000001", "000000", "-0", "-00", "-01", "-007", "-", "--", "--1", "-1-", "1-", "+", "+0", "+1", "-+1", "+-1", "+999999",
	"", "1.0", "1.", ".1", "1,2", "1,", ",1", "1e3", "0x1", "0b1", "0o7", "1_000", "_1", "a", "I", "N", "one", "wrap", "hold", "1\t", "\t1", "1\r", "1\x00", "\x00", "²", "１", "٣", "\xff", "1\xff",
	strings.Repeat("0", 1000), strings.Repeat("1", 1000), "-" + strings.Repeat("9", 1000),
}

func TestPromise10Numbers(t *testing.T) {
	desks := []impl.Desk{exampleDesk(), desk(hold(8), 0, 1, -1), desk(hold(16), -maxSample, maxSample)}
	lines := spokenLines()
	for _, name := range commands() {
		for i, kind := range lines[name].kinds {
			if kind != 'N' && kind != 'I' {
				continue
			}
			for _, word := range numberWords {
				for _, others := range []string{"0", "1", "2", "10", "999999"} {
					words := otherWords(name, lines[name].kinds, others)
					words[i+1] = word
					checkLine(t, desks, strings.Join(words, " "))
				}
			}
		}
	}
}

// otherWords are words of the right kinds, the numbers all the same.
func otherWords(name string, kinds string, number string) []string {
	words := []string{name}
	for _, kind := range kinds {
		switch kind {
		case 'S':
			words = append(words, "1,-2")
		case 'W':
			words = append(words, "hold")
		default:
			words = append(words, number)
		}
	}
	return words
}

func checkLine(t *testing.T, desks []impl.Desk, line string) {
	t.Helper()
	for _, d := range desks {
		after, reply := lineBy(spokenLines(), d, line)
		askLine(t, d, line, after, reply)
	}
}

// The numbers that there are, and those that there are not, told one by one: no
// pattern reads them.
func TestPromise10NumbersByHand(t *testing.T) {
	d := desk(wrap(4))
	for _, c := range []struct {
		word  string
		plain string // the reply to steps: of no samples, only the step may be wrong
		whole string // the reply to scale
	}{
		{"0", "no", "-"},
		{"1", "-", "-"},
		{"4096", "-", "no"},
		{"4097", "no", "no"},
		{"999999", "no", "no"},
		{"1000000", "what", "what"},
		{"-1", "what", "-"},
		{"-1000", "what", "-"},
		{"-1001", "what", "no"},
		{"-999999", "what", "no"},
		{"-1000000", "what", "what"},
		{"00", "what", "what"},
		{"01", "what", "what"},
		{"0000001", "what", "what"},
		{"-0", "what", "what"},
		{"-", "what", "what"},
		{"-01", "what", "what"},
		{"+1", "what", "what"},
		{"+0", "what", "what"},
		{"1.0", "what", "what"},
		{"", "what", "what"},
		{"9223372036854775807", "what", "what"},
		{"-9223372036854775808", "what", "what"},
		{"18446744073709551617", "what", "what"},
	} {
		askLine(t, d, "steps "+c.word, d, c.plain)
		askLine(t, d, "scale "+c.word, d, c.whole)
	}
}

// textsOfSignals are texts of signals at each limit, and words that are none.
func textsOfSignals() []string {
	texts := []string{
		"-", "0", "1", "-1", "1,2", "1,1", "1,-1", "0,0", "1000", "-1000", "1001", "-1001", "99999", "100000", "-100000", "1,100000", "-100000,100000",
		"100001", "-100001", "1,100001", "100001,1", "1000000", "9223372036854775808", "-9223372036854775809", "18446744073709551617",
		"", ",", ",,", "1,", ",1", "1,,2", ",1,2", "1,2,", "--", "-,1", "1,-", "-,-", "-1,", "--1", "1-", "1-2", "+1", "1,+2", "01", "1,02", "00", "-0", "1,-0", "-01", "-00",
		"1;2", "1.5", "1.0", "1e2", "0x1", "1_0", "a", "1,a", "S", "[1,2]", "1,2]", "1\t", "1,\t2", "1\r", "\x00", "1\x00", "\xff", "−1", "１", "wrap", "hold", "sums",
	}
	for _, length := range []int{9, 10, 63, 64, 65, 66, 200} {
		texts = append(texts, listBy(repeat(1, length)), listBy(repeat(-1, length)), listBy(repeat(maxSample, length)), strings.Repeat(",", length), strings.Repeat("1,", length))
	}
	return append(texts, strings.Repeat("1", 1000), strings.Repeat("-", 1000), strings.Repeat("0", 1000))
}

func TestPromise10TextsOfSignals(t *testing.T) {
	desks := []impl.Desk{exampleDesk(), desk(hold(8)), desk(hold(16), repeat(1, impl.MaxSignal)...), desk(wrap(2), 100, -100)}
	for _, text := range textsOfSignals() {
		checkLine(t, desks, "signal "+text)
		checkLine(t, desks, "weigh "+text)
	}
	for _, s := range goodSignals() {
		askLine(t, exampleDesk(), "signal "+listBy(s), desk(wrap(4), s...), listBy(s))
	}
	for _, s := range badSignals() {
		askLine(t, exampleDesk(), "signal "+listBy(s), exampleDesk(), "what")
	}
	for _, h := range goodWeights() {
		askLine(t, desk(wrap(4), 1), "weigh "+listBy(h), desk(wrap(4), h...), listBy(h))
	}
}

func TestPromise10WrapOrHold(t *testing.T) {
	for _, name := range []string{"", "Wrap", "WRAP", "Hold", "HOLD", "wra", "wrapp", "wraps", "hol", "holds", "hold,", "wrap\t", "\twrap", "wraphold", "W", "true", "false", "0", "1", "-", "4", "fit", "wrap\x00", "h\xffld"} {
		for _, bits := range []string{"0", "1", "2", "4", "8", "16", "17"} {
			askLine(t, exampleDesk(), "word "+bits+" "+name, exampleDesk(), "what")
		}
	}
	// The word is that of all calls that need one, at once.
	d := desk(wrap(3), 5, -6, 7, 1)
	for _, c := range []struct {
		word string
		w    impl.Word
		fit  []int
		run  []int
	}{
		{"word 3 hold", hold(3), []int{3, -4, 3, 1}, []int{3, -3, 3, 3}},
		{"word 3 wrap", wrap(3), []int{-3, 2, -1, 1}, []int{-3, -1, -2, -1}},
		{"word 16 hold", hold(16), []int{5, -6, 7, 1}, []int{5, -1, 6, 7}},
	} {
		after, _, _ := impl.DeskLine(d, c.word)
		askLine(t, after, "fit", desk(c.w, c.fit...), listBy(c.fit))
		askLine(t, after, "first 1 0", desk(c.w, c.run...), listBy(c.run))
		askLine(t, after, "bits", after, strings.TrimPrefix(c.word, "word "))
	}
}

// The mode is RoundDown: with others a line would tell another reply.
func TestPromise10Mode(t *testing.T) {
	source, others := numberSource(100), 0
	for range 300 {
		a, shift := source.next(20), 1+source.upTo(2)
		w := []impl.Word{hold(4), wrap(5), hold(6)}[source.upTo(2)]
		d := desk(w, source.list(6, 20)...)
		for _, command := range []string{"first", "cycles"} {
			line := fmt.Sprint(command, " ", a, " ", shift)
			after, reply := lineBy(spokenLines(), d, line)
			askLine(t, d, line, after, reply)
		}
		for _, mode := range []int{impl.RoundNear, impl.RoundZero} {
			cycles, _ := impl.CyclesOfFirst(first(a, shift, mode, w), 0)
			if _, reply, _ := impl.DeskLine(d, fmt.Sprint("cycles ", a, " ", shift)); reply != fmt.Sprint(len(cycles)) {
				others++
			}
		}
	}
	if others < 50 {
		t.Error("the modes are hardly different:", others)
	}
}

func TestPromise10EveryLineOnEveryDesk(t *testing.T) {
	for _, d := range goodDesks() {
		for _, line := range goodLines() {
			checkLine(t, []impl.Desk{d}, line)
		}
	}
}

func TestPromise10NoDesk(t *testing.T) {
	for _, d := range badDesks() {
		for _, line := range append(goodLines(), "", "fly", "signal 1", "word 4 wrap") {
			wantNoLine(t, d, line)
		}
	}
}

func TestPromise10NoLine(t *testing.T) {
	long := strings.Repeat("x", impl.MaxScript)
	for _, d := range goodDesks() {
		for _, line := range []string{"\n", "show\n", "\nshow", "show\nshow", "sums\n\n", " \n ", long + "x", long + long, long[:impl.MaxScript-1] + "\n", strings.Repeat(" ", impl.MaxScript+1), strings.Repeat("\n", impl.MaxScript)} {
			wantNoLine(t, d, line)
		}
		for _, line := range []string{long, strings.Repeat(" ", impl.MaxScript), strings.Repeat("1,", impl.MaxScript/2), strings.Repeat("\xff", impl.MaxScript), "show\r", "show\x0b", "show\u2028", "show\u0085"} {
			askLine(t, d, line, d, "what")
		}
		ahead := "signal "
		askLine(t, d, ahead+strings.Repeat("1,", (impl.MaxScript-len(ahead))/2)+"1", d, "what")
		askLine(t, d, ahead+strings.Repeat("1", impl.MaxScript-len(ahead)), d, "what")
	}
}
