package tests

import (
	"fmt"
	"strings"
	"testing"

	"loop.example/sistab/impl"
)

// checkAnswer has a text, and the lines of what ReadSession answers.
func checkAnswer(t *testing.T, text string, lines ...string) {
	t.Helper()
	want := strings.Join(lines, "\n") + "\n"
	if got := impl.ReadSession(text); got != want {
		t.Errorf("%s: %s, not %s", short(text), short(got), short(want))
	}
	if want != otherSession(text) {
		t.Errorf("%s: the other way says %s, not %s", short(text), short(otherSession(text)), short(want))
	}
}

// checkAnswerFault has a text that is answered by a fault alone: where here is, or at 0, if it is nowhere.
func checkAnswerFault(t *testing.T, text string, code int) {
	t.Helper()
	at := max(strings.Index(text, here), 0)
	checkAnswer(t, strings.Replace(text, here, "", 1), fmt.Sprintf("fault %d at %d", code, at))
}

// checkOtherSession holds an answer against the other way to make it, and asks for it again; it tells the answer.
func checkOtherSession(t *testing.T, text string) string {
	t.Helper()
	got, again := impl.ReadSession(text), impl.ReadSession(text)
	if want := otherSession(text); got != want || again != want {
		t.Errorf("%q: %q, then %q, not %q", text, got, again, want)
	}
	return got
}

// What follows is another way to answer: root by root, by the other ways to read and to write.

// otherSession is what ReadSession must answer.
func otherSession(text string) string {
	d, fault := otherParse(text)
	if fault.Code != 0 {
		return fmt.Sprintf("fault %d at %d\n", fault.Code, fault.At)
	}
	out := ""
	for i := range d.Roots {
		first := 0
		for !followedSame(alone(d, first), alone(d, i)) {
			first++
		}
		out += fmt.Sprintf("%d: %s\n", first, otherLine(alone(d, i), false))
	}
	return out + otherLine(d, true) + "\n"
}

// alone is data with one of their roots alone.
func alone(d impl.ReadData, i int) impl.ReadData {
	return impl.ReadData{Nodes: d.Nodes, Roots: d.Roots[i : i+1]}
}

func otherLine(d impl.ReadData, shows bool) string {
	if text, ok := otherWritten(d, shows); ok {
		return text
	}
	return "too long"
}

// A long datum is told with labels: so its text is short.

// longRow is the text of a vector that is written in wholes*201 + last + 3 bytes: of so many symbols of 200 bytes, and one of so many.
func longRow(name string, wholes int, last int) string {
	return "#(#0=" + strings.Repeat(name, 200) + strings.Repeat(" #0#", wholes-1) + " " + strings.Repeat("z", last) + ")"
}

// longRowWritten is what longRow is written as, and shown.
func longRowWritten(name string, wholes int, last int) string {
	return "#(" + strings.Repeat(strings.Repeat(name, 200)+" ", wholes) + strings.Repeat("z", last) + ")"
}
