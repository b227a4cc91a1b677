package tests

import (
	"fmt"
	"slices"
	"strings"
	"testing"

	"loop.example/g01198/impl"
)

// Promise 10: lines do with a desk what the calls do that they name.

func TestPromise10FirstDesk(t *testing.T) {
	if d := impl.FirstDesk(); !isSameDesk(d, exampleDesk()) {
		t.Error("first desk", d)
	}
	d := impl.FirstDesk()
	overwrite(d.Signal, mark)
	if again := impl.FirstDesk(); !isSameDesk(again, exampleDesk()) {
		t.Error("first desk behind a changed one", again)
	}
}

func TestPromise10IsDesk(t *testing.T) {
	for _, d := range goodDesks() {
		if !impl.IsDesk(d) {
			t.Error("no desk:", d)
		}
	}
	for _, d := range badDesks() {
		if impl.IsDesk(d) {
			t.Error("a desk:", d)
		}
	}
	for _, w := range goodWords() {
		if !impl.IsDesk(desk(w)) || impl.IsDesk(desk(w, maxSample+1)) {
			t.Error("desks with", w)
		}
	}
}

// effect is a line, and what it makes of a signal and a word.
type effect struct {
	line   string
	signal []int
	word   impl.Word
	reply  string
}

func askEffects(t *testing.T, d impl.Desk, effects []effect) {
	t.Helper()
	for _, c := range effects {
		askLine(t, d, c.line, desk(c.word, c.signal...), c.reply)
	}
}

func TestPromise10SignalsByHand(t *testing.T) {
	w := wrap(4)
	askEffects(t, exampleDesk(), []effect{
		{"signal 5", []int{5}, w, "5"},
		{"signal -", nil, w, "-"},
		{"signal 0", []int{0}, w, "0"},
		{"signal -7,0,100000,-100000", []int{-7, 0, maxSample, -maxSample}, w, "-7,0,100000,-100000"},
		{"fit", []int{3, -1, 4}, w, "3,-1,4"},
		{"sums", []int{3, 2, 6}, w, "3,2,6"},
		{"diffs", []int{3, -4, 5}, w, "3,-4,5"},
		{"scale 2", []int{6, -2, 8}, w, "6,-2,8"},
		{"scale -3", []int{-9, 3, -12}, w, "-9,3,-12"},
		{"scale 0", []int{0, 0, 0}, w, "0,0,0"},
		{"scale 1000", []int{3000, -1000, 4000}, w, "3000,-1000,4000"},
		{"scale -1000", []int{-3000, 1000, -4000}, w, "-3000,1000,-4000"},
		{"weigh 1,2,1", []int{3, 5, 5, 7, 4}, w, "3,5,5,7,4"},
		{"weigh -1", []int{-3, 1, -4}, w, "-3,1,-4"},
		{"weigh 0,0", []int{0, 0, 0, 0}, w, "0,0,0,0"},
		{"first 1 1", []int{3, 0, 4}, w, "3,0,4"},
		{"first -1 1", []int{3, -3, 5}, w, "3,-3,5"},
		{"first 2 0", []int{3, 5, -2}, w, "3,5,-2"},
		{"first 0 10", []int{3, -1, 4}, w, "3,-1,4"},
		{"hold 3 2", []int{3, 3, -1, 4, 4}, w, "3,3,-1,4,4"},
		{"hold 1 8", []int{3}, w, "3"},
		{"hold 2 4", []int{3, 4}, w, "3,4"},
	})
	askEffects(t, desk(hold(4), 9, -1, -9), []effect{
		{"fit", []int{7, -1, -8}, hold(4), "7,-1,-8"},
		{"first 2 0", []int{7, 7, 5}, hold(4), "7,7,5"},
		{"first -1 1", []int{7, -5, -7}, hold(4), "7,-5,-7"},
	})
	askEffects(t, desk(wrap(4), 9, -1, -9), []effect{
		{"fit", []int{-7, -1, 7}, wrap(4), "-7,-1,7"},
	})
}

func TestPromise10WordsByHand(t *testing.T) {
	s := []int{3, -1, 4}
	askEffects(t, exampleDesk(), []effect{
		{"word 8 hold", s, hold(8), "8 hold"},
		{"word 2 wrap", s, wrap(2), "2 wrap"},
		{"word 16 hold", s, hold(16), "16 hold"},
		{"word 4 wrap", s, wrap(4), "4 wrap"},
		{"word 4 hold", s, hold(4), "4 hold"},
		{"word 0 hold", s, wrap(4), "no"},
		{"word 1 wrap", s, wrap(4), "no"},
		{"word 17 wrap", s, wrap(4), "no"},
		{"word 999999 hold", s, wrap(4), "no"},
		{"word 1000000 hold", s, wrap(4), "what"},
		{"word -4 hold", s, wrap(4), "what"},
	})
	for bits := 0; bits <= 40; bits++ {
		for _, name := range []string{"wrap", "hold"} {
			line := fmt.Sprint("word ", bits, " ", name)
			if bits >= 2 && bits <= 16 {
				askLine(t, desk(hold(3), 1), line, desk(impl.Word{Bits: bits, Wrap: name == "wrap"}, 1), fmt.Sprint(bits, " ", name))
			} else {
				askLine(t, desk(hold(3), 1), line, desk(hold(3), 1), "no")
			}
		}
	}
}

// asked are lines that change nothing, and their replies.
func asked(t *testing.T, d impl.Desk, replies map[string]string) {
	t.Helper()
	for line, reply := range replies {
		askLine(t, d, line, d, reply)
	}
}

func TestPromise10QuestionsByHand(t *testing.T) {
	asked(t, exampleDesk(), map[string]string{
		"show":        "3,-1,4",
		"bits":        "4 wrap",
		"peak":        "4",
		"sum":         "6",
		"unfit":       "0",
		"ones 4":      "1,-1,1",
		"ones 1000":   "1,-1,1",
		"comb 1 1":    "3,-1,4",
		"comb 2 2":    "5",
		"comb 1 4":    "-",
		"four":        "36,2,64,2",
		"six":         "36,7,21,64,21,7",
		"steps 1":     "1,-1,1",
		"steps 4096":  "1,-1,-1",
		"cycles 1 1":  "2",
		"cycles -1 0": "9",
		"cycles 1 0":  "16",
		"cycles 2 0":  "1",
		"cycles -3 2": "1",
		"cycles 0 0":  "1",
	})
	asked(t, desk(hold(4), 9, 7, -8, -9), map[string]string{
		"show":        "9,7,-8,-9",
		"bits":        "4 hold",
		"peak":        "9",
		"sum":         "-1",
		"unfit":       "2",
		"cycles -1 0": "8",
		"cycles 2 0":  "3",
	})
	asked(t, desk(hold(10), 1), map[string]string{"cycles 1 1": "2", "bits": "10 hold"})
	asked(t, desk(hold(11), 1), map[string]string{"cycles 1 1": "no", "first 1 1": "1"})
}

// Powers are told to the last digit, even if they are no samples.
func TestPromise10PowersAreNoSignals(t *testing.T) {
	asked(t, desk(wrap(4), 1000), map[string]string{
		"four": "1000000,1000000,1000000,1000000",
		"six":  "1000000,1000000,1000000,1000000,1000000,1000000",
	})
	asked(t, desk(wrap(4), 0, -99999), map[string]string{
		"four": "9999800001,9999800001,9999800001,9999800001",
		"six":  "9999800001,9999800001,9999800001,9999800001,9999800001,9999800001",
	})
	asked(t, desk(hold(16), repeat(maxSample, impl.MaxSignal)...), map[string]string{
		"four": "40960000000000,0,0,0",
		"six":  "40960000000000,30000000000,10000000000,0,10000000000,30000000000",
		"sum":  "6400000",
	})
}

func TestPromise10NoSamples(t *testing.T) {
	for _, d := range []impl.Desk{desk(wrap(4)), {Signal: []int{}, Word: hold(8)}} {
		for line, reply := range map[string]string{
			"show": "-", "fit": "-", "sums": "-", "diffs": "-", "scale -5": "-", "weigh 1,2,1": "-", "first 1 1": "-", "hold 3 2": "-",
			"peak": "0", "sum": "0", "unfit": "0", "ones 1": "-", "comb 4 8": "-", "steps 1": "-",
			"four": "0,0,0,0", "six": "0,0,0,0,0,0", "weigh -": "no", "scale 1001": "no", "first 1025 0": "no", "hold 0 1": "no",
			"ones 0": "no", "comb 0 1": "no", "steps 0": "no",
		} {
			askLine(t, d, line, d, reply)
		}
	}
}

// A line whose call fails changes nothing.
func TestPromise10No(t *testing.T) {
	ten := listBy(repeat(1, impl.MaxWeights+1))
	for _, line := range []string{
		"scale 1001", "scale -1001", "scale 999999", "scale -999999", "weigh -", "weigh 1001", "weigh -1001,1", "weigh " + ten,
		"first 1025 0", "first -1025 0", "first 1 11", "first 999999 999999", "hold 0 1", "hold 1 0", "hold 0 0", "hold 9 1", "hold 1 9", "hold 999999 999999",
		"word 0 wrap", "word 1 hold", "word 17 wrap", "word 999999 hold",
		"ones 0", "ones 3", "ones 1001", "comb 0 1", "comb 1 0", "comb 5 1", "comb 1 9", "steps 0", "steps 4097", "cycles 1025 0", "cycles -1025 0", "cycles 1 11",
	} {
		askLine(t, exampleDesk(), line, exampleDesk(), "no")
	}
	for _, c := range []struct {
		d     impl.Desk
		lines []string
	}{
		{desk(wrap(4), maxSample, 1), []string{"sums", "scale 2", "scale -2", "weigh 1,1", "comb 1 2", "comb 1 2"}},
		{desk(hold(16), maxSample, -1), []string{"diffs", "scale 1000", "weigh 1,-1", "weigh 2"}},
		{desk(hold(8), repeat(1, impl.MaxSignal)...), []string{"hold 2 1", "hold 8 7", "weigh 1,1", "weigh 0,0"}},
		{desk(hold(8), repeat(1, 33)...), []string{"hold 2 1", "hold 8 1"}},
		{desk(wrap(11), 3), []string{"cycles 1 1", "cycles 0 0"}},
		{desk(hold(16), 3), []string{"cycles 1 1", "cycles 0 0"}},
	} {
		for _, line := range c.lines {
			askLine(t, c.d, line, c.d, "no")
		}
	}
}

// What is no line of the table changes nothing, and is another reply than no.
func TestPromise10What(t *testing.T) {
	for _, line := range []string{
		"", " ", "  ", "fly", "no", "what", "-", "0", "3,-1,4", "Sums", "SHOW", "sum s", "sumss", "show\t", "\tshow", "show\r", "show\x00", "shów", "\xff", "peak,", "N", "signal\t1",
		"desk", "wrap", "wrap 4", "hold", "hold hold", "hold hold 1", "hold 1 hold", "hold wrap 1", "word hold", "word hold 4", "word wrap hold", "four 4", "six 6",
		"word 17 fly", "word 0 sums", "scale 1001 1", "weigh 1001 1", "weigh - -", "ones -1", "steps -1", "comb -1 1", "comb 1 -1", "hold -1 1", "first 1 -1", "cycles 1 -1", "ones 0 0",
	} {
		askLine(t, exampleDesk(), line, exampleDesk(), "what")
	}
}

// goodLines are lines of the table, whose calls do not fail on the first desk.
func goodLines() []string {
	return []string{
		"signal 1,2", "word 8 hold", "fit", "sums", "diffs", "scale -2", "weigh 1,1", "first 1 1", "hold 3 2", "show", "bits",
		"peak", "sum", "unfit", "ones 4", "comb 2 2", "four", "six", "steps 1", "cycles 1 1",
	}
}

// Words are separated by single blanks, so that one more blank is one more word,
// an empty one.
func TestPromise10WordsMayBeEmpty(t *testing.T) {
	if len(goodLines()) != len(commands()) {
		t.Fatal("lines are missing:", goodLines())
	}
	for _, line := range goodLines() {
		if _, reply, ok := impl.DeskLine(exampleDesk(), line); !ok || reply == "no" || reply == "what" {
			t.Errorf("line %q: %q, %v", line, reply, ok)
		}
		for i := range len(line) + 1 {
			if i == 0 || i == len(line) || line[i] == ' ' {
				askLine(t, exampleDesk(), line[:i]+" "+line[i:], exampleDesk(), "what")
				askLine(t, exampleDesk(), line[:i]+"  "+line[i:], exampleDesk(), "what")
			}
		}
	}
}

func TestPromise10TooFewOrManyWords(t *testing.T) {
	for _, line := range goodLines() {
		words := strings.Split(line, " ")
		for count := range words {
			askLine(t, exampleDesk(), strings.Join(words[:count], " "), exampleDesk(), "what")
		}
		for _, more := range []string{"0", "1", "-", "1,2", "hold", "wrap", "sums", line} {
			askLine(t, exampleDesk(), line+" "+more, exampleDesk(), "what")
		}
		// As many words, but one of them is empty.
		for i := range words {
			empty := slices.Clone(words)
			empty[i] = ""
			askLine(t, exampleDesk(), strings.Join(empty, " "), exampleDesk(), "what")
		}
		if len(words) > 1 {
			askLine(t, exampleDesk(), strings.Join(words, "\t"), exampleDesk(), "what")
		}
	}
}

// A result has memory of its own, also where the line leaves the signal as it is.
func TestPromise10DesksShareNothing(t *testing.T) {
	for _, line := range append(goodLines(), "fly", "", "scale 1001", "weigh -", "word 17 hold") {
		d := impl.Desk{Signal: withRoom([]int{3, -1, 4}), Word: wrap(4)}
		after, reply, ok := impl.DeskLine(d, line)
		again, _, _ := impl.DeskLine(d, line)
		wanted, _ := lineBy(spokenLines(), exampleDesk(), line)
		overwrite(after.Signal, -mark)
		if !ok || !isSameDesk(again, wanted) || isChanged(d.Signal, []int{3, -1, 4}, mark) {
			t.Errorf("line %q: %q, %v, %v behind %v", line, reply, ok, again, d)
		}
	}
}
