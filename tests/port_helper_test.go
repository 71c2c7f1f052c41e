package tests

import (
	"math"
	"strings"
	"testing"
	"unsafe"

	"loop.example/sistab/impl"
)

// portAt is a text that is read from a place on.
func portAt(text string, at int) impl.TabPort {
	return impl.TabPort{Text: text, At: at}
}

// nowhere are ints that are no places of a text, nor its end.
func nowhere(text string) []int {
	return []int{-1, -2, -len(text) - 1, math.MinInt, len(text) + 1, len(text) + 2, 2*len(text) + 1, math.MaxInt}
}

// isPieceOf says whether a text lies in the memory of another one.
func isPieceOf(text string, whole string) bool {
	if text == "" || whole == "" {
		return false
	}
	at, from := uintptr(unsafe.Pointer(unsafe.StringData(text))), uintptr(unsafe.Pointer(unsafe.StringData(whole)))
	return at >= from && at < from+uintptr(len(whole))
}

// checkOwnMemory has a port that was read from, and texts that were answered: none is a piece of the port's.
func checkOwnMemory(t *testing.T, p impl.TabPort, texts ...string) {
	t.Helper()
	for _, text := range texts {
		if isPieceOf(text, p.Text) {
			t.Errorf("%s at %d: the text %s has one memory with it", short(p.Text), p.At, short(text))
		}
	}
}

// askChar reads a character, and holds it against the other way.
func askChar(t *testing.T, p impl.TabPort) (string, impl.TabPort) {
	t.Helper()
	got, behind := impl.TabChar(p)
	if want, then := otherChar(p); got != want || behind != then {
		t.Errorf("%s at %d: %q, then %s at %d, not %q, then at %d", short(p.Text), p.At, got, short(behind.Text), behind.At, want, then.At)
	}
	checkOwnMemory(t, p, got, behind.Text)
	return got, behind
}

// askLine reads a line, and holds it against the other way.
func askLine(t *testing.T, p impl.TabPort) (string, impl.TabPort, bool) {
	t.Helper()
	got, behind, ok := impl.TabLine(p)
	if want, then, there := otherPortLine(p); got != want || behind != then || ok != there {
		t.Errorf("%s at %d: %s %v, then %s at %d, not %s %v, then at %d", short(p.Text), p.At, short(got), ok, short(behind.Text), behind.At, short(want), there, then.At)
	}
	checkOwnMemory(t, p, got, behind.Text)
	return got, behind, ok
}

// askDatum reads a datum, and holds it against the other way.
func askDatum(t *testing.T, p impl.TabPort) (impl.ReadData, impl.TabPort, impl.ReadFault) {
	t.Helper()
	d, behind, fault := impl.TabDatum(p)
	if want, then, wanted := otherDatum(p); !equal(d, want) || behind != then || fault != wanted {
		t.Errorf("%s at %d: %v %+v, then %s at %d, not %v %+v, then at %d", short(p.Text), p.At, d, fault, short(behind.Text), behind.At, want, wanted, then.At)
	}
	checkOwnMemory(t, p, append(textsOf(d), behind.Text)...)
	checkApart(t, d)
	kept := copied(d)
	scribble(d)
	return kept, behind, fault
}

// checkPort holds promise 13 of a port that is somewhere in its text.
func checkPort(t *testing.T, p impl.TabPort) {
	t.Helper()
	end := portAt(p.Text, len(p.Text))
	characters := ""
	q := p
	for range len(p.Text) - p.At {
		if q == end {
			break
		}
		c, behind := askChar(t, q)
		if c == "" || behind.At != q.At+len(c) {
			t.Fatalf("%s: at %d %q, then at %d", short(p.Text), q.At, c, behind.At)
		}
		characters, q = characters+c, behind
	}
	if characters != p.Text[p.At:] || q != end {
		t.Errorf("%s at %d: the characters are %s", short(p.Text), p.At, short(characters))
	}
	lines := ""
	for q = p; q != end; {
		line, behind, ok := askLine(t, q)
		newline := p.Text[min(q.At+len(line), behind.At):behind.At]
		if !ok || behind.At <= q.At || strings.Contains(line, "\n") || newline != "\n" && (newline != "" || behind != end) {
			t.Fatalf("%s: at %d %s %v, then at %d", short(p.Text), q.At, short(line), ok, behind.At)
		}
		lines, q = lines+line+newline, behind
	}
	if lines != p.Text[p.At:] {
		t.Errorf("%s at %d: the lines are %s", short(p.Text), p.At, short(lines))
	}
	checkEnd(t, p.Text)
}

// checkEnd reads at the end of a text: there is nothing, and the port stays.
func checkEnd(t *testing.T, text string) {
	t.Helper()
	end := portAt(text, len(text))
	c, behindChar := askChar(t, end)
	line, behindLine, ok := askLine(t, end)
	d, behindDatum, fault := askDatum(t, end)
	if c != "" || line != "" || ok || !isNothing(d) || fault != (impl.ReadFault{}) || behindChar != end || behindLine != end || behindDatum != end {
		t.Errorf("%s: at the end %q %s %v %v %+v, then %v %v %v", short(text), c, short(line), ok, d, fault, behindChar, behindLine, behindDatum)
	}
}

// checkChars has a text, and its characters, or, where there is none, its bytes.
func checkChars(t *testing.T, text string, want ...string) {
	t.Helper()
	p := portAt(text, 0)
	for _, c := range want {
		got, behind := askChar(t, p)
		if got != c || behind != portAt(text, p.At+len(c)) {
			t.Errorf("%q: at %d %q, then at %d, not %q", text, p.At, got, behind.At, c)
		}
		p = behind
	}
	if p.At != len(text) {
		t.Errorf("%q: the last one ends at %d", text, p.At)
	}
	checkPort(t, portAt(text, 0))
}

// checkTextLines has a text, and its lines.
func checkTextLines(t *testing.T, text string, want ...string) {
	t.Helper()
	p := portAt(text, 0)
	for i, line := range want {
		got, behind, ok := askLine(t, p)
		if got != line || !ok {
			t.Errorf("%s: line %d is %s %v, not %s", short(text), i, short(got), ok, short(line))
		}
		p = behind
	}
	if got, behind, ok := askLine(t, p); got != "" || ok || behind != portAt(text, len(text)) {
		t.Errorf("%s: %s %v behind all lines, then at %d", short(text), short(got), ok, behind.At)
	}
	checkPort(t, portAt(text, 0))
}

// checkFirst has a port, the datum that is told of it as it is written, and where the port is then.
func checkFirst(t *testing.T, p impl.TabPort, want string, at int) {
	t.Helper()
	d, behind, fault := askDatum(t, p)
	if text, ok := impl.ReadPrint(d); !ok || text != want || len(d.Roots) != 1 || behind != portAt(p.Text, at) || fault != (impl.ReadFault{}) {
		t.Errorf("%s at %d: %s %+v, then %s at %d, not %s, then at %d", short(p.Text), p.At, short(text), fault, short(behind.Text), behind.At, short(want), at)
	}
}

// checkAllData has a text of data without a fault, in which here stands behind the last token of each; and how they are written.
func checkAllData(t *testing.T, text string, want ...string) {
	t.Helper()
	parts := strings.SplitAfter(text, here)
	text = strings.ReplaceAll(text, here, "")
	at := 0
	for i, part := range parts[:len(parts)-1] {
		next := at + len(part) - len(here)
		checkFirst(t, portAt(text, at), want[i], next)
		at = next
	}
	if len(want) != len(parts)-1 {
		t.Errorf("%s: %d data are written, but %d are there", text, len(want), len(parts)-1)
	}
	checkNoDatum(t, portAt(text, at))
	checkAsParsed(t, portAt(text, 0))
}

// checkNoDatum has a port that has nothing left but what is left out.
func checkNoDatum(t *testing.T, p impl.TabPort) {
	t.Helper()
	if d, behind, fault := askDatum(t, p); !isNothing(d) || behind != portAt(p.Text, len(p.Text)) || fault != (impl.ReadFault{}) {
		t.Errorf("%s at %d: %v %+v, then at %d", short(p.Text), p.At, d, fault, behind.At)
	}
}

// checkDatumFault has what is left of a text, with a fault where here is, or at 0, if it is nowhere; the port stays, be ahead what may.
func checkDatumFault(t *testing.T, left string, code int) {
	t.Helper()
	want := impl.ReadFault{At: max(strings.Index(left, here), 0), Code: code}
	left = strings.Replace(left, here, "", 1)
	for _, ahead := range []string{"", " ", "a ", "(", "\xff", "é\n", ") #0=", strings.Repeat("(b ", 1500)} {
		p := portAt(ahead+left, len(ahead))
		if d, behind, fault := askDatum(t, p); !isNothing(d) || behind != p || fault != want {
			t.Errorf("%s behind %s: %v %+v, then at %d, not %+v", short(left), short(ahead), d, fault, behind.At, want)
		}
	}
}

// checkAsParsed holds promise 14 of a port: its data, one behind the other, are those that ReadParse reads of what is left; it says whether that has no fault.
func checkAsParsed(t *testing.T, p impl.TabPort) bool {
	t.Helper()
	all, fault := impl.ReadParse(p.Text[p.At:])
	if fault.Code != 0 {
		return false
	}
	for i := range all.Roots {
		d, behind, fault := askDatum(t, p)
		if !equal(d, impl.ReadMin(alone(all, i))) || !impl.ReadOk(d) || fault.Code != 0 || behind.At <= p.At {
			t.Errorf("%s: datum %d is %v %+v, then at %d, not %v", short(p.Text), i, d, fault, behind.At, alone(all, i))
		}
		p = behind
	}
	checkNoDatum(t, p)
	return true
}

// What follows is another way to read from a port: by what is left of it, cut off piece by piece.

func isNowhere(p impl.TabPort) bool {
	return p.At < 0 || p.At > len(p.Text)
}

// otherChar is what TabChar must tell.
func otherChar(p impl.TabPort) (string, impl.TabPort) {
	if isNowhere(p) {
		return "", impl.TabPort{}
	}
	left := p.Text[p.At:]
	size := min(1, len(left))
	for longer := 2; longer <= min(4, len(left)); longer++ {
		if charactersAlone(left[:longer]) && left[0] >= 0xc0 {
			size = longer
			break
		}
	}
	return left[:size], portAt(p.Text, p.At+size)
}

// otherPortLine is what TabLine must tell.
func otherPortLine(p impl.TabPort) (string, impl.TabPort, bool) {
	if isNowhere(p) {
		return "", impl.TabPort{}, false
	}
	line, _, newline := strings.Cut(p.Text[p.At:], "\n")
	at := p.At + len(line)
	if newline {
		at++
	}
	return line, portAt(p.Text, at), at > p.At
}

// otherDatum is what TabDatum must tell: of the shortest beginning of what is left, up to the end of some token, that has a datum, or a fault that more tokens do not mend.
func otherDatum(p impl.TabPort) (impl.ReadData, impl.TabPort, impl.ReadFault) {
	if isNowhere(p) {
		return impl.ReadData{}, impl.TabPort{}, impl.ReadFault{}
	}
	left := p.Text[p.At:]
	_, places, fault := cutAll(left)
	if fault.Code != 0 {
		return impl.ReadData{}, p, fault
	}
	ends := impl.ReadFault{}
	for _, at := range places {
		_, size := cutToken(left[at:])
		d, fault := otherParse(left[:at+size])
		switch {
		case fault == impl.ReadFault{Code: impl.ReadUneven} && left[0] != ')': // more is wanted
			ends = fault
		case fault.Code != 0:
			return impl.ReadData{}, p, fault
		case len(d.Roots) > 0:
			return d, portAt(p.Text, p.At+at+size), impl.ReadFault{}
		default: // all until now is left out
			ends = fault
		}
	}
	if ends.Code != 0 {
		return impl.ReadData{}, p, ends
	}
	return impl.ReadData{}, portAt(p.Text, len(p.Text)), impl.ReadFault{}
}
