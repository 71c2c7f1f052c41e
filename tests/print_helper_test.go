package tests

import (
	"fmt"
	"slices"
	"strconv"
	"strings"
	"testing"

	"loop.example/sistab/impl"
)

// written is what ReadPrint and ReadShow tell of data: both true or both false beside the empty text, and the data as they were.
func written(t *testing.T, d impl.ReadData) (string, bool, string, bool) {
	t.Helper()
	roomy, memory := withRoom(d)
	before := slices.Clone(memory)
	print, printed := impl.ReadPrint(roomy)
	show, shown := impl.ReadShow(roomy)
	if !equal(roomy, d) || !slices.Equal(memory, before) {
		t.Errorf("%v, or behind its lists, was written into: %v, %v", d, roomy, memory)
	}
	if len(print) > 4000 || len(show) > 4000 || !printed && print != "" || !shown && show != "" {
		t.Errorf("%v: %d bytes %v, %d bytes %v", d, len(print), printed, len(show), shown)
	}
	return print, printed, show, shown
}

// checkWritten has data, and how they are written and shown.
func checkWritten(t *testing.T, d impl.ReadData, print string, show string) {
	t.Helper()
	gotPrint, printed, gotShow, shown := written(t, d)
	if !printed || gotPrint != print {
		t.Errorf("%v: written %s %v, not %s", d, short(gotPrint), printed, short(print))
	}
	if !shown || gotShow != show {
		t.Errorf("%v: shown %s %v, not %s", d, short(gotShow), shown, short(show))
	}
	checkReadAgain(t, d)
}

// checkWrites has a text whose data are written so, and shown no other way.
func checkWrites(t *testing.T, text string, print string) {
	t.Helper()
	d, fault := parse(t, text)
	if fault.Code != 0 {
		t.Errorf("%s: fault %+v", short(text), fault)
	}
	checkWritten(t, d, print, print)
}

// checkReadAgain holds promise 2 of data that can be written; it says whether their text was not too long to be read.
func checkReadAgain(t *testing.T, d impl.ReadData) bool {
	t.Helper()
	text, ok := impl.ReadPrint(d)
	if !ok {
		t.Errorf("%v: not written", d)
	}
	again, fault := parse(t, text)
	if _, _, cut := cutAll(text); cut.Code != 0 {
		if cut.Code != impl.ReadTooLong || fault != cut {
			t.Errorf("%v: written %s, and that read with fault %+v", d, short(text), fault)
		}
		return false
	}
	if fault.Code != 0 || !equal(again, impl.ReadMin(d)) {
		t.Errorf("%v: written %s, and that read %v %+v", d, short(text), again, fault)
	}
	return true
}

// checkNotWritten has data of which neither text may be told.
func checkNotWritten(t *testing.T, name string, d impl.ReadData) {
	t.Helper()
	if print, printed, show, shown := written(t, d); printed || shown {
		t.Errorf("%s: written %s %v, shown %s %v", name, short(print), printed, short(show), shown)
	}
}

// notOkData are data that are not ok, by what is wrong with them.
func notOkData() map[string]impl.ReadData {
	end := node(impl.ReadNil, "")
	all := map[string]impl.ReadData{
		"a root, no nodes":   {Roots: []int{0}},
		"a root below 0":     {Nodes: []impl.ReadNode{end}, Roots: []int{-1}},
		"a root past end":    {Nodes: []impl.ReadNode{end}, Roots: []int{0, 1}},
		"a root far off":     {Nodes: []impl.ReadNode{end}, Roots: []int{1 << 62}},
		"a kid below 0":      data(node(impl.ReadPair, "", 1, -1), end),
		"a kid past end":     data(node(impl.ReadPair, "", 2, 1), end),
		"a part far off":     data(node(impl.ReadRow, "", 1, -1<<63), end),
		"a kid no root sees": data(end, node(impl.ReadPair, "", 0, 2)),
		"81 nodes":           data(slices.Repeat([]impl.ReadNode{end}, 81)...),
		"many nodes":         data(slices.Repeat([]impl.ReadNode{node(impl.ReadPair, "", 0, 1)}, 5000)...),
		"13 roots":           {Nodes: []impl.ReadNode{end}, Roots: make([]int, 13)},
		"41 parts":           data(node(impl.ReadRow, "", make([]int, 41)...)),
		"a pair of one":      data(node(impl.ReadPair, "", 0)),
		"a pair of three":    data(node(impl.ReadPair, "", 0, 0, 0)),
		"no node":            data(impl.ReadNode{}),
		"Sort 10":            data(node(10, "")),
		"Sort below 0":       data(node(-1, "a", 0)),
		"a bad one unseen":   data(end, node(0, "")),
	}
	for sort, of := range texts {
		for i, text := range of.wrong {
			all["Sort "+strconv.Itoa(sort)+", wrong text "+strconv.Itoa(i)] = data(node(sort, text, make([]int, kidCounts(sort)[0])...))
		}
	}
	return all
}

// What follows is another way to write: each datum a text of its own, what is being written handed down as a list that only grows.

// opened is something that is being written, and its label.
type opened struct {
	at    int
	label string
}

type otherWriter struct {
	nodes  []impl.ReadNode
	shows  bool
	labels int
	size   int // of all atoms and brackets until now: a bound from below of what is written
}

// otherWritten is what ReadPrint, or ReadShow, must tell of data that are ok.
func otherWritten(d impl.ReadData, shows bool) (text string, ok bool) {
	defer func() {
		if caught := recover(); caught != nil {
			text, ok = "", caught.(bool)
		}
	}()
	d = otherMin(rootsOf(d))
	out := []string{}
	size := 0
	for _, root := range d.Roots {
		w := otherWriter{nodes: d.Nodes, shows: shows, size: size}
		out = append(out, w.datum(root, nil))
		size = w.size
	}
	text = strings.Join(out, "\n")
	if len(text) > 4000 {
		return "", false
	}
	return text, true
}

// spent ends the writing where far too much was written.
func (w *otherWriter) spent(text string) string {
	if w.size += len(text); w.size > 4000 {
		panic(false)
	}
	return text
}

func isOpened(open []opened, at int) (string, bool) {
	i := slices.IndexFunc(open, func(o opened) bool { return o.at == at })
	if i < 0 {
		return "", false
	}
	return open[i].label, true
}

// returns says whether there is a way back, by asking again and again what can be come to.
func (w *otherWriter) returns(at int, open []opened) bool {
	reached := slices.Clone(w.nodes[at].Kids)
	for grown := true; grown; {
		grown = false
		for _, from := range reached {
			if _, is := isOpened(open, from); is {
				continue
			}
			for _, kid := range w.nodes[from].Kids {
				if !slices.Contains(reached, kid) {
					reached, grown = append(reached, kid), true
				}
			}
		}
	}
	return slices.Contains(reached, at)
}

func (w *otherWriter) datum(at int, open []opened) string {
	n := w.nodes[at]
	if n.Sort != impl.ReadPair && n.Sort != impl.ReadRow {
		return w.spent(w.atom(n))
	}
	if label, is := isOpened(open, at); is {
		return w.spent("#" + label + "#")
	}
	mark, label := "", ""
	if w.returns(at, open) {
		label = strconv.Itoa(w.labels)
		mark = w.spent("#" + label + "=")
		w.labels++
	}
	open = append(slices.Clone(open), opened{at, label})
	if n.Sort == impl.ReadPair {
		return mark + w.list(at, open)
	}
	parts := []string{}
	for _, kid := range n.Kids {
		parts = append(parts, w.datum(kid, open))
	}
	return mark + w.spent("#(") + strings.Join(parts, " ") + w.spent(")")
}

func (w *otherWriter) list(at int, open []opened) string {
	text := w.spent("(") + w.datum(w.nodes[at].Kids[0], open)
	for {
		at = w.nodes[at].Kids[1]
		_, is := isOpened(open, at)
		switch n := w.nodes[at]; {
		case n.Sort == impl.ReadNil:
			return text + ")"
		case n.Sort != impl.ReadPair, is, w.returns(at, open):
			return text + " . " + w.datum(at, open) + ")"
		}
		open = append(open, opened{at: at})
		text += w.spent(" ") + w.datum(w.nodes[at].Kids[0], open)
	}
}

func (w *otherWriter) atom(n impl.ReadNode) string {
	named := map[string]string{" ": "space", "\n": "newline", "\t": "tab", "\x00": "null"}
	switch n.Sort {
	case impl.ReadString, impl.ReadChar:
		if w.shows {
			return n.Text
		}
		if n.Sort == impl.ReadString {
			return `"` + otherEscapes().Replace(n.Text) + `"`
		}
		if named[n.Text] != "" {
			return `#\` + named[n.Text]
		}
		if c := n.Text[0]; c < 32 || c == 127 {
			return `#\x` + strconv.FormatUint(uint64(c), 16)
		}
		return `#\` + n.Text
	case impl.ReadBool:
		return map[string]string{"t": "#t", "f": "#f"}[n.Text]
	case impl.ReadNil:
		return "()"
	case impl.ReadRaw:
		list := fmt.Sprint([]byte(n.Text)) // numbers in square brackets
		return "#u8(" + list[1:len(list)-1] + ")"
	}
	return n.Text
}

// otherEscapes has each byte that is escaped in a string.
func otherEscapes() *strings.Replacer {
	pairs := []string{`"`, `\"`, `\`, `\\`, "\n", `\n`, "\t", `\t`}
	for b := range 128 {
		if (b < 32 || b == 127) && b != '\n' && b != '\t' {
			pairs = append(pairs, string(rune(b)), `\x`+strconv.FormatInt(int64(b), 16)+";")
		}
	}
	return strings.NewReplacer(pairs...)
}
