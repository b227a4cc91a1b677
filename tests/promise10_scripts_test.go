package tests

import (
	"fmt"
	"slices"
	"strings"
	"testing"

	"loop.example/g01198/impl"
)

// Promise 10: scripts execute their lines one behind the other.

func TestPromise10Example(t *testing.T) {
	lines := []string{"sums", "scale 2", "fit", "peak", "word 8 hold", "weigh 1,1", "first 1 1", "four", "fly"}
	want := []string{"3,2,6", "6,4,12", "6,4,-4", "6", "8 hold", "6,10,0,-4", "6,13,6,-1", "576,196,0,196", "what"}
	replies, ok := impl.RunScript(scriptOf(lines))
	if !ok || !slices.Equal(replies, want) {
		t.Error(replies, ok)
	}
	d, ok := impl.DeskAfter(scriptOf(lines))
	if !ok || !isSameDesk(d, desk(hold(8), 6, 13, 6, -1)) {
		t.Error(d, ok)
	}
	failed, ok := impl.FailedLines(scriptOf(lines))
	wantList(t, "failed lines", failed, ok, []int{9})
	askScript(t, lines)
}

func TestPromise10ScriptsByHand(t *testing.T) {
	for _, c := range []struct {
		script  string
		replies []string
		desk    impl.Desk
		failed  []int
	}{
		{"", nil, exampleDesk(), nil},
		{"\n", []string{"what"}, exampleDesk(), []int{1}},
		{"\n\n\n", []string{"what", "what", "what"}, exampleDesk(), []int{1, 2, 3}},
		{"show\n", []string{"3,-1,4"}, exampleDesk(), nil},
		{"show\nbits\n", []string{"3,-1,4", "4 wrap"}, exampleDesk(), nil},
		{"show \n", []string{"what"}, exampleDesk(), []int{1}},
		{"show\r\n", []string{"what"}, exampleDesk(), []int{1}},
		{" \nshow\n\n", []string{"what", "3,-1,4", "what"}, exampleDesk(), []int{1, 3}},
		{"signal 9\nsignal 10,\nshow\nscale 1001\nshow\n", []string{"9", "what", "9", "no", "9"}, desk(wrap(4), 9), []int{2, 4}},
		{"word 3 hold\nword 17 hold\nword 3 wraps\nbits\nfit\n", []string{"3 hold", "no", "what", "3 hold", "3,-1,3"}, desk(hold(3), 3, -1, 3), []int{2, 3}},
		{"signal -\nshow\nfour\nword 2 hold\nsum\n", []string{"-", "-", "0,0,0,0", "2 hold", "0"}, desk(hold(2)), nil},
		{"sums\ndiffs\nshow\ndiffs\nsums\n", []string{"3,2,6", "3,-1,4", "3,-1,4", "3,-4,5", "3,-1,4"}, exampleDesk(), nil},
		{"scale 100\nscale 1000\nscale -10\npeak\nunfit\n", []string{"300,-100,400", "no", "-3000,1000,-4000", "4000", "3"}, desk(wrap(4), -3000, 1000, -4000), []int{2}},
		{"hold 8 1\nhold 8 3\nhold 2 1\nhold 1 8\n", []string{"3,3,3,3,3,3,3,3,-1,-1,-1,-1,-1,-1,-1,-1,4,4,4,4,4,4,4,4", "3,3,3,3,3,3,3,3,3,3,3,3,3,3,3,3,3,3,3,3,3,3,-1,-1,-1,-1,-1,-1,-1,-1,-1,-1,-1,-1,-1,-1,-1,-1,-1,-1,-1,-1,-1,4,4,4,4,4,4,4,4,4,4,4,4,4,4,4,4,4,4,4,4,4", "no", "3,3,3,-1,-1,-1,4,4"}, desk(wrap(4), 3, 3, 3, -1, -1, -1, 4, 4), []int{3}},
	} {
		what := fmt.Sprintf("script %q", c.script)
		replies, ok := impl.RunScript(c.script)
		if !ok || !slices.Equal(replies, c.replies) {
			t.Errorf("%s: %q, %v", what, replies, ok)
		}
		d, ok := impl.DeskAfter(c.script)
		if !ok || !isSameDesk(d, c.desk) {
			t.Errorf("%s: %v, %v", what, d, ok)
		}
		failed, ok := impl.FailedLines(c.script)
		wantList(t, what, failed, ok, c.failed)
	}
}

// padded is a script of so many bytes.
func padded(size int) string {
	line := strings.Repeat("x", 99) + "\n"
	script := strings.Repeat(line, size/100)
	if rest := size - len(script); rest > 0 {
		script += strings.Repeat("y", rest-1) + "\n"
	}
	return script
}

func TestPromise10Limits(t *testing.T) {
	for _, line := range []string{"", "show", "sums", "fly", "word 3 hold", " "} {
		for _, count := range []int{0, 1, 2, impl.MaxLines - 1, impl.MaxLines} {
			askScript(t, slices.Repeat([]string{line}, count))
		}
		for _, count := range []int{impl.MaxLines + 1, impl.MaxLines + 2, 100, 200} {
			wantNoScript(t, strings.Repeat(line+"\n", count))
		}
	}
	for _, size := range []int{1, 2, 99, 100, 101, impl.MaxScript - 1, impl.MaxScript} {
		if len(padded(size)) != size {
			t.Fatal("no script of so many bytes:", size)
		}
		replies, ok := impl.RunScript(padded(size))
		if want := slices.Repeat([]string{"what"}, (size+99)/100); !ok || !slices.Equal(replies, want) {
			t.Error(size, replies, ok)
		}
		failed, ok := impl.FailedLines(padded(size))
		wantNumber(t, fmt.Sprint("failed lines of ", size), len(failed), ok, (size+99)/100)
		d, ok := impl.DeskAfter(padded(size))
		if !ok || !isSameDesk(d, exampleDesk()) {
			t.Error(size, d, ok)
		}
	}
	for _, size := range []int{impl.MaxScript + 1, impl.MaxScript + 2, 2 * impl.MaxScript, 100000} {
		wantNoScript(t, padded(size))
	}
	// One line alone may have all bytes but that of its newline.
	line := strings.Repeat("z", impl.MaxScript-1)
	askScript(t, []string{line})
	wantNoScript(t, line+"z\n")
}

// A script ends with a newline, whatever its last line is.
func TestPromise10LastLineNotEnded(t *testing.T) {
	for _, line := range append(goodLines(), "fly", " ", "-", "\r", "scale 1001") {
		wantNoScript(t, line)
		wantNoScript(t, "\n"+line)
		wantNoScript(t, "show\n"+line)
		wantNoScript(t, "show\nsums\n\n"+line)
		wantNoScript(t, line+"\r")
		wantNoScript(t, line+"\n ")
		wantNoScript(t, strings.Repeat("show\n", impl.MaxLines-1)+line)
		wantNoScript(t, strings.Repeat("show\n", impl.MaxLines)+line)
		askScript(t, []string{"show", line})
	}
}

// someWord is a word of a kind, or, now and then, one that is none.
func someWord(source *numberSource, kind rune) string {
	if source.upTo(24) == 0 {
		return numberWords[source.upTo(len(numberWords)-1)]
	}
	switch kind {
	case 'S':
		return listBy(source.list(source.upTo(5), []int{1, 2, 9}[source.upTo(2)]))
	case 'W':
		return []string{"wrap", "hold"}[source.upTo(1)]
	case 'I':
		return fmt.Sprint(source.next(4))
	}
	return fmt.Sprint([]int{1, 2, 3, 4, 5, 8, 10, 100}[source.upTo(7)])
}

// someLine is a line of the table, or, now and then, one that is none.
func someLine(source *numberSource) string {
	names := commands()
	words := []string{names[source.upTo(len(names)-1)]}
	for _, kind := range spokenLines()[words[0]].kinds {
		words = append(words, someWord(source, kind))
	}
	line := strings.Join(words, " ")
	switch source.upTo(30) {
	case 0:
		return line + " "
	case 1:
		return " " + line
	case 2:
		return line[:len(line)-1]
	case 3:
		return line + " 1"
	}
	return line
}

func someScript(source *numberSource, count int) []string {
	lines, size := []string{}, 0
	for range count {
		line := someLine(source)
		size += len(line) + 1
		if size > impl.MaxScript {
			break
		}
		lines = append(lines, line)
	}
	return lines
}

func TestPromise10Scripts(t *testing.T) {
	source, replies, failures := numberSource(101), map[string]int{}, map[string]int{}
	for i := range 600 {
		lines := someScript(&source, i%(impl.MaxLines+1))
		askScript(t, lines)
		answers, _ := impl.RunScript(scriptOf(lines))
		for n, reply := range answers {
			name := strings.Split(lines[n], " ")[0]
			if reply == "no" || reply == "what" {
				failures[reply]++
			} else {
				replies[name]++
			}
		}
	}
	for _, name := range commands() {
		if replies[name] < 50 {
			t.Error("a line is hardly tried:", name, replies[name])
		}
	}
	if failures["no"] < 300 || failures["what"] < 300 {
		t.Error("failures are hardly tried:", failures)
	}
}

// A script does what its lines do one by one, each on the desk behind the last one.
func TestPromise10LineByLine(t *testing.T) {
	source := numberSource(102)
	for range 200 {
		lines := someScript(&source, impl.MaxLines)
		replies, ok := impl.RunScript(scriptOf(lines))
		d, found := impl.FirstDesk(), []int{}
		for i, line := range lines {
			after, reply, done := impl.DeskLine(d, line)
			if !ok || !done || replies[i] != reply || !impl.IsDesk(after) {
				t.Fatalf("line %q: %q, %v", line, reply, done)
			}
			if reply == "no" || reply == "what" {
				found = append(found, i+1)
				if !isSameDesk(after, d) {
					t.Errorf("line %q: %q, but %v became %v", line, reply, d, after)
				}
			}
			d = after
			if behind, ok := impl.DeskAfter(scriptOf(lines[:i+1])); !ok || !isSameDesk(behind, d) {
				t.Errorf("behind %q: %v, %v, want %v", lines[:i+1], behind, ok, d)
			}
		}
		failed, ok := impl.FailedLines(scriptOf(lines))
		wantList(t, fmt.Sprintf("failed lines of %q", lines), failed, ok, found)
	}
}

// Each script begins with the first desk, whatever the last one has left.
func TestPromise10NothingIsKept(t *testing.T) {
	for range 3 {
		d, ok := impl.DeskAfter("signal 1,2,3\nword 9 hold\n")
		if !ok || !isSameDesk(d, desk(hold(9), 1, 2, 3)) {
			t.Error(d, ok)
		}
		overwrite(d.Signal, mark)
		d, ok = impl.DeskAfter("")
		if !ok || !isSameDesk(d, exampleDesk()) {
			t.Error(d, ok)
		}
		overwrite(d.Signal, mark)
		askScript(t, []string{"show", "bits"})
	}
}
