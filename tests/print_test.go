package tests

import (
	"fmt"
	"strconv"
	"strings"
	"testing"

	"loop.example/sistab/impl"
)

// checkAtom has an atom, and how it is written and shown, alone and in others.
func checkAtom(t *testing.T, sort int, text string, print string, show string) {
	t.Helper()
	atom, end, z := node(sort, text), node(impl.ReadNil, ""), node(impl.ReadSymbol, "z")
	checkWritten(t, data(atom), print, show)
	checkWritten(t, data(node(impl.ReadPair, "", 1, 2), atom, end), "("+print+")", "("+show+")")
	checkWritten(t, data(node(impl.ReadPair, "", 2, 3), end, z, node(impl.ReadPair, "", 4, 1), atom), "(z "+print+")", "(z "+show+")")
	checkWritten(t, data(node(impl.ReadRow, "", 1, 2, 1), atom, z), "#("+print+" z "+print+")", "#("+show+" z "+show+")")
	checkWritten(t, impl.ReadData{Nodes: []impl.ReadNode{atom, z, atom}, Roots: []int{0, 1, 2}}, print+"\nz\n"+print, show+"\nz\n"+show)
	if sort != impl.ReadNil {
		checkWritten(t, data(node(impl.ReadPair, "", 2, 1), atom, z), "(z . "+print+")", "(z . "+show+")")
	}
}

func TestP2EachSort(t *testing.T) {
	checkAtom(t, impl.ReadNumber, "-3/2", "-3/2", "-3/2")
	checkAtom(t, impl.ReadSymbol, "a", "a", "a")
	checkAtom(t, impl.ReadString, "a b", `"a b"`, "a b")
	checkAtom(t, impl.ReadChar, "a", `#\a`, "a")
	checkAtom(t, impl.ReadBool, "t", "#t", "#t")
	checkAtom(t, impl.ReadBool, "f", "#f", "#f")
	checkAtom(t, impl.ReadNil, "", "()", "()")
	checkAtom(t, impl.ReadRow, "", "#()", "#()")
	checkAtom(t, impl.ReadRaw, "\x01\xff", "#u8(1 255)", "#u8(1 255)")
	checkWrites(t, "(a)", "(a)")
	checkWrites(t, "(a . b)", "(a . b)")
	checkWrites(t, "#(a b)", "#(a b)")
}

func TestP2Strings(t *testing.T) {
	for text, print := range map[string]string{
		"": "", "a": "a", " ": " ", `"`: `\"`, `\`: `\\`, "\n": `\n`, "\t": `\t`, "\x00": `\x0;`, "\x01": `\x1;`, "\x0d": `\xd;`, "\x1f": `\x1f;`, "\x7f": `\x7f;`,
		"é": "é", "€": "€", "😀": "😀", "\u0080": "\u0080", "\ufffd": "\ufffd", "\U0010ffff": "\U0010ffff", "aé€😀\x7f\x1f": `aé€😀\x7f;\x1f;`,
		"()#;|',`.": "()#;|',`.", `\n`: `\\n`, `\x41;`: `\\x41;`, `""`: `\"\"`, `\"`: `\\\"`, "\x0bff;": `\xb;ff;`, "\x0012": `\x0;12`, "1": "1", "#t": "#t", "a\nb\tc": `a\nb\tc`,
	} {
		checkAtom(t, impl.ReadString, text, `"`+print+`"`, text)
	}
	for b := range 128 {
		want := string(rune(b))
		switch {
		case b == '"' || b == '\\':
			want = `\` + want
		case b == 10:
			want = `\n`
		case b == 9:
			want = `\t`
		case b < 32 || b == 127:
			want = fmt.Sprintf(`\x%x;`, b)
		}
		checkAtom(t, impl.ReadString, "a"+string(rune(b))+"b", `"a`+want+`b"`, "a"+string(rune(b))+"b")
	}
}

func TestP2LongestAtoms(t *testing.T) {
	const most = impl.ReadMaxAtom
	for text, print := range map[string]string{`"`: `\"`, `\`: `\\`, "\n": `\n`, "\x00": `\x0;`, "\x1f": `\x1f;`, "\x7f": `\x7f;`, "a": "a", " ": " "} {
		checkWritten(t, data(node(impl.ReadString, strings.Repeat(text, most))), `"`+strings.Repeat(print, most)+`"`, strings.Repeat(text, most))
	}
	checkAtom(t, impl.ReadString, strings.Repeat("😀", most/4), `"`+strings.Repeat("😀", most/4)+`"`, strings.Repeat("😀", most/4))
	checkAtom(t, impl.ReadSymbol, strings.Repeat("é", most/2), strings.Repeat("é", most/2), strings.Repeat("é", most/2))
	bytes := "#u8(" + strings.TrimSpace(strings.Repeat("255 ", most)) + ")"
	checkWritten(t, data(node(impl.ReadRaw, strings.Repeat("\xff", most))), bytes, bytes)
	long := "-" + nines(60) + "/1" + noughts(59)
	checkAtom(t, impl.ReadNumber, long, long, long)
}

func TestP2Characters(t *testing.T) {
	for text, print := range map[string]string{
		" ": "space", "\n": "newline", "\t": "tab", "\x00": "null", "\x01": "x1", "\x0d": "xd", "\x1f": "x1f", "\x7f": "x7f", "é": "é", "€": "€", "😀": "😀", "\u0080": "\u0080", "\u00a0": "\u00a0", "\ufffd": "\ufffd", "\U0010ffff": "\U0010ffff",
		"x": "x", "s": "s", "n": "n", "t": "t", "(": "(", ")": ")", `"`: `"`, ";": ";", "'": "'", `\`: `\`, "#": "#", "|": "|", ",": ",", ".": ".", "0": "0", "f": "f",
	} {
		checkAtom(t, impl.ReadChar, text, `#\`+print, text)
	}
	for b := range 128 {
		want := string(rune(b))
		if b < 32 || b == 127 {
			want = fmt.Sprintf("x%x", b)
		}
		if name := map[int]string{0: "null", 9: "tab", 10: "newline", 32: "space"}[b]; name != "" {
			want = name
		}
		checkAtom(t, impl.ReadChar, string(rune(b)), `#\`+want, string(rune(b)))
	}
}

func TestP2Symbols(t *testing.T) {
	for _, text := range []string{"quote", "quasiquote", "unquote", "unquote-splicing", "...", "..", "+", "-", "+a", "-/2", "t", "f", "true", "nil", "null", "space", "x41", "u8", "a.b", ".a", "a#", "a#b", "a,b", "a,@b", "a`b", "@", "[", "{}", "é", "\ufffd", "\u00a0", "=", "-" + nines(61)} {
		checkAtom(t, impl.ReadSymbol, text, text, text)
	}
	checkWrites(t, "'a", "(quote a)")
	checkWrites(t, "`(a ,b ,@c)", "(quasiquote (a (unquote b) (unquote-splicing c)))")
	checkWrites(t, "(a . 'b)", "(a quote b)")
}

func TestP2Bytes(t *testing.T) {
	checkAtom(t, impl.ReadRaw, "", "#u8()", "#u8()")
	checkAtom(t, impl.ReadRaw, "\x00\xff", "#u8(0 255)", "#u8(0 255)")
	checkAtom(t, impl.ReadRaw, "é", "#u8(195 169)", "#u8(195 169)")
	for b := range 256 {
		want := "#u8(" + strconv.Itoa(b) + ")"
		checkAtom(t, impl.ReadRaw, string([]byte{byte(b)}), want, want)
	}
}

func TestP2AllTexts(t *testing.T) {
	for sort, of := range texts {
		for _, text := range of.right {
			d := data(node(sort, text, make([]int, kidCounts(sort)[0])...))
			if !checkReadAgain(t, d) {
				t.Errorf("%v: too long", d)
			}
		}
	}
}

func TestP2Roots(t *testing.T) {
	checkWritten(t, impl.ReadData{}, "", "")
	checkWritten(t, impl.ReadData{Nodes: []impl.ReadNode{node(impl.ReadNil, ""), node(impl.ReadPair, "", 1, 1)}}, "", "")
	checkWritten(t, impl.ReadData{Nodes: []impl.ReadNode{node(impl.ReadSymbol, "a")}, Roots: []int{0}}, "a", "a")
	checkWrites(t, "a b a", "a\nb\na")
	checkWrites(t, "() (a b) #(c) () 1", "()\n(a b)\n#(c)\n()\n1")
	checkWritten(t, impl.ReadData{Nodes: []impl.ReadNode{node(impl.ReadString, "\n"), node(impl.ReadString, "")}, Roots: []int{0, 1, 0}}, "\"\\n\"\n\"\"\n\"\\n\"", "\n\n\n\n")
	most := strings.TrimSpace(strings.Repeat("(a)\n", impl.ReadMaxRoots))
	checkWrites(t, most, most)
}

func TestP2MostTokens(t *testing.T) {
	nodes := []impl.ReadNode{node(impl.ReadRow, ""), node(impl.ReadRow, "", make([]int, 40)...), node(impl.ReadSymbol, "a")}
	for i := range nodes[1].Kids {
		nodes[1].Kids[i] = 2
	}
	for atoms, readable := range map[int]bool{3: true, 4: true, 5: false, 6: false} { // 2 and 7 times 42 tokens, and the atoms
		nodes[0].Kids = append([]int{1, 1, 1, 1, 1, 1, 1}, []int{2, 2, 2, 2, 2, 2}[:atoms]...)
		if got := checkReadAgain(t, data(nodes...)); got != readable {
			t.Errorf("%d atoms: read again %v", atoms, got)
		}
	}
	nodes[0].Kids = make([]int, 39)
	for i := range nodes[0].Kids {
		nodes[0].Kids[i] = 1
	}
	full := "#(" + strings.TrimSpace(strings.Repeat("a ", 40)) + ")"
	all := "#(" + strings.TrimSpace(strings.Repeat(full+" ", 39)) + ")" // three nodes, one of which is told very often
	checkWritten(t, data(nodes...), all, all)
}

// filled is a vector of strings: 19 of 200 bytes each, and one of so many.
func filled(last int) impl.ReadData {
	row := node(impl.ReadRow, "")
	for range 19 {
		row.Kids = append(row.Kids, 1)
	}
	row.Kids = append(row.Kids, 2)
	return data(row, node(impl.ReadString, strings.Repeat("a", 200)), node(impl.ReadString, strings.Repeat("b", last)))
}

// TestP2MostOut has texts of just ReadMaxOut bytes, and of one more.
func TestP2MostOut(t *testing.T) {
	for last, wants := range map[int]struct{ print, show int }{137: {3999, 3959}, 138: {4000, 3960}, 139: {0, 3961}, 177: {0, 3999}, 178: {0, 4000}, 179: {0, 0}, 200: {0, 0}} {
		print, printed, show, shown := written(t, filled(last))
		if len(print) != wants.print || printed != (wants.print > 0) || len(show) != wants.show || shown != (wants.show > 0) {
			t.Errorf("%d: written %d bytes %v, shown %d bytes %v", last, len(print), printed, len(show), shown)
		}
	}
	checkReadAgain(t, filled(138))
	// behind a part that does not fit there is one that still could: the end of the vector, and roots
	d := filled(100) // 3962 bytes, shown 3922
	d.Nodes = append(d.Nodes, node(impl.ReadSymbol, strings.Repeat("c", 77)), node(impl.ReadSymbol, "c"))
	d.Roots = []int{0, 3, 4}
	if print, printed, show, shown := written(t, d); printed || shown {
		t.Errorf("written %d bytes %v, shown %d bytes %v", len(print), printed, len(show), shown)
	}
	d.Roots = []int{4, 0, 4} // the newline ahead of a root counts
	for size, ok := range map[int]bool{100: true, 133: true, 134: true, 135: false} {
		d.Nodes[2].Text = strings.Repeat("b", size)
		if print, printed := impl.ReadPrint(d); printed != ok || ok && len(print) != size+3866 {
			t.Errorf("%d: written %d bytes %v", size, len(print), printed)
		}
	}
}

// TestP2OutOfRoom has data whose text would be longer than could ever be written.
func TestP2OutOfRoom(t *testing.T) {
	twice, wide, tied := impl.ReadData{}, impl.ReadData{}, impl.ReadData{}
	for i := range 79 {
		twice.Nodes = append(twice.Nodes, node(impl.ReadPair, "", i+1, i+1))
		row, knot := node(impl.ReadRow, ""), node(impl.ReadRow, "")
		for k := range 40 {
			row.Kids = append(row.Kids, i+1)
			knot.Kids = append(knot.Kids, (i+k*7)%80)
		}
		wide.Nodes, tied.Nodes = append(wide.Nodes, row), append(tied.Nodes, knot)
	}
	for name, d := range map[string]impl.ReadData{"twice": twice, "wide": wide, "tied": tied} {
		d.Nodes = append(d.Nodes, node(impl.ReadRow, ""))
		for root := range 12 {
			d.Roots = append(d.Roots, root)
		}
		checkNotWritten(t, name, d)
		d.Roots = nil
		checkWritten(t, d, "", "")
	}
}

func TestP2NotOk(t *testing.T) {
	for name, d := range notOkData() {
		checkNotWritten(t, name, d)
		d.Roots = nil
		if !impl.ReadOk(d) { // it may be the roots that were not ok
			checkNotWritten(t, name+", no roots", d)
		}
	}
}

func TestP2Lists(t *testing.T) {
	for text, want := range map[string]string{
		"(a . ())": "(a)", "(a . (b . (c . ())))": "(a b c)", "(a . (b . c))": "(a b . c)", "(a . #(b))": "(a . #(b))", "(a . #u8(1))": "(a . #u8(1))", "(a . #())": "(a . #())", "(a . #t)": "(a . #t)", "(a . 1)": "(a . 1)", "(a . b)": "(a . b)",
		"(())": "(())", "(() . a)": "(() . a)", "((a))": "((a))", "((a . b) . (c . d))": "((a . b) c . d)", "((a) (b) . c)": "((a) (b) . c)", "(a #(b (c . d)) . #((e)))": "(a #(b (c . d)) . #((e)))", "#(() (a) #())": "#(() (a) #())",
	} {
		checkWrites(t, text, want)
	}
}

// TestP2GoingAround has data that go around: what gets a label, and what is being written.
func TestP2GoingAround(t *testing.T) {
	for _, text := range []string{
		// at its beginning, in its midst, at its end
		"#0=(a . #0#)", "#0=(a b . #0#)", "(x . #0=(y . #0#))", "(x y . #0=(z a . #0#))", "(x . #0=(y z a . #0#))",
		// through its first part
		"#0=(#0#)", "#0=(#0# . a)", "#0=(#0# a)", "#0=(a #0#)", "#0=((a . #0#))", "(a #0=(#0# b))", "#0=(a (b #0#))", "#0=(a (b (c #0# d) e) f)", "(a . #0=((b . #0#) c))", "(a #0=((b . #0#) c))", "#0=(((#0# . a)))", "#0=(#0# . #0#)",
		// through a vector
		"#0=#(#0#)", "#0=#(a #0# b)", "#0=#(#0# #0#)", "#0=#((a #0#))", "#0=#((a . #0#))", "(x . #0=#((y . #0#)))", "(x #0=#((y #0# a) z))", "#0=(a . #(b #0#))", "#0=(a #(#0#) . b)", "(a . #0=(b #(#0#)))", "(a . #0=(#(b #0#) c . #0#))", "#(#0=#(a #0#) b)", "#(a #(b #0=#(#0#)))",
		// through two labels
		"#0=(a . #1=(b #0# . #1#))", "#0=(#1=(a #0# . #1#) . #0#)", "#0=#(a #1=#(b #0# #1#))", "#0=#(#1=(#0# . #1#))", "(a . #0=(b . #1=(c #0# . #1#)))", "#0=(a . #1=(b . #2=(#0# #1# . #2#)))", "#0=(a #1=(b #0# #1#) #2=(c #2# #0#))",
		// labels are counted on, whether they are done or not
		"(#0=(a . #0#) #1=(b . #1#))", "(#0=(a . #0#) . #1=(b . #1#))", "((#0=(a . #0#)) . #1=(b . #1#))", "#0=(#1=(a . #1#) . #0#)", "#(#0=(a . #0#) #1=(a . #1#) #2=(a . #2#))", "(#0=(a . #0#) #(#1=(a . #1#)) . #2=(a . #2#))",
	} {
		checkWrites(t, text, text)
	}
}

// TestP2WaysToSay has data that are written another way than they were told.
func TestP2WaysToSay(t *testing.T) {
	for text, want := range map[string]string{
		"#5=(a . #5#)": "#0=(a . #0#)", "#0=(a a . #0#)": "#0=(a . #0#)", "#0=(a . #1=(b . #0#))": "#0=(a b . #0#)", "(a . #0=(b a . #0#))": "#0=(a b . #0#)", "(a b a . #0=(b a . #0#))": "#0=(a b . #0#)", "#0=(a #1=(b . #0#))": "#0=(a (b . #0#))",
		// no label: none can come to itself, or only through what is being written
		"(#0=(a) #0#)": "((a) (a))", "(#0=(a) . #0#)": "((a) a)", "#(#0=#(a) #0#)": "#(#(a) #(a))", "(x #0=#((y #0#) z))": "(x . #0=(#((y . #0#) z)))", "#0=(((#0#)))": "#0=(#0#)", "#(#(#0=#(#0#)))": "#0=#(#0#)", "#0=#(#1=(a #0#) #1#)": "#0=#((a #0#) (a #0#))", "#0=(#1=(a . #0#) . #1#)": "#0=((a . #0#) a . #0#)", "#0=(#1=(a #0#) #1#)": "#0=((a #0#) (a #0#))",
		// a label anew, where the one before has been done
		"(#0=(a . #0#) #0#)": "(#0=(a . #0#) #1=(a . #1#))", "(#0=(a . #0#) . #0#)": "(#0=(a . #0#) . #1=(a . #1#))", "#(#0=#(#0#) #0# b)": "#(#0=#(#0#) #1=#(#1#) b)", "#0=(#1=#(#1# #0#) #1#)": "#0=(#1=#(#1# #0#) #2=#(#2# #0#))",
		"((x . #0=(y . #0#)) . #0#)": "((x . #0=(y . #0#)) . #1=(y . #1#))",
		// each root
		"#0=(a . #0#) #0=(b . #0#)": "#0=(a . #0#)\n#0=(b . #0#)", "#0=(a . #0#) #0=(a . #0#)": "#0=(a . #0#)\n#0=(a . #0#)", "(#0=(a . #0#) #0#) #1=#(#1#) b": "(#0=(a . #0#) #1=(a . #1#))\n#0=#(#0#)\nb", "#0=(a b . #0#) #0=(b a . #0#)": "#0=(a b . #0#)\n#0=(b a . #0#)",
		"#0=(#1=(b . #0#)) #0=(b #0#)": "#0=((b . #0#))\n#0=(b #0#)",
	} {
		checkWrites(t, text, want)
	}
}

func TestP2ManyLabels(t *testing.T) {
	parts := []string{}
	for i := range 40 {
		parts = append(parts, fmt.Sprintf("#%d=(a . #%d#)", i, i))
	}
	want := "#(" + strings.Join(parts, " ") + ")"
	checkWrites(t, "#(#0=(a . #0#)"+strings.Repeat(" #0#", 39)+")", want)
	text := "#0=(a0"
	for i := 1; i < 26; i++ {
		text += fmt.Sprintf(" . #%d=(a%d", i, i)
	}
	for i := range 25 {
		text += fmt.Sprintf(" #%d#", i)
	}
	text += " . #25#" + strings.Repeat(")", 26)
	checkWrites(t, text, text)
}

func TestP2Shown(t *testing.T) {
	for text, want := range map[string]struct{ print, show string }{
		`("a" #\b)`:                              {`("a" #\b)`, "(a b)"},
		`#("" "" #\space)`:                       {`#("" "" #\space)`, "#(   )"},
		`("a\"b\\" . "\n")`:                      {`("a\"b\\" . "\n")`, "(a\"b\\ . \n)"},
		`#("\x0;" #\null "\x7f;" #\x7f)`:         {`#("\x0;" #\null "\x7f;" #\x7f)`, "#(\x00 \x00 \x7f \x7f)"},
		`#0=(#("s" (#\c . #0#)) . #0#)`:          {`#0=(#("s" (#\c . #0#)) . #0#)`, "#0=(#(s (c . #0#)) . #0#)"},
		`(("a") #((#\( . "é")) . #\))`:           {`(("a") #((#\( . "é")) . #\))`, "((a) #((( . é)) . ))"},
		`"a" "b" #\c`:                            {"\"a\"\n\"b\"\n#\\c", "a\nb\nc"},
		`(a "a" #\a #t "t" "()" () "#u8()")`:     {`(a "a" #\a #t "t" "()" () "#u8()")`, "(a a a #t t () () #u8())"},
		`(quote "a")`:                            {`(quote "a")`, "(quote a)"},
		"(\"\t\" #\\tab #\\newline #\\x41 #\\x)": {`("\t" #\tab #\newline #\A #\x)`, "(\t \t \n A x)"},
	} {
		d, fault := parse(t, text)
		if fault.Code != 0 {
			t.Errorf("%s: %+v", text, fault)
		}
		checkWritten(t, d, want.print, want.show)
	}
}

// TestP2AnotherWay holds what is written of many data against another way to write them, and reads it again.
func TestP2AnotherWay(t *testing.T) {
	d := &dice{state: 41}
	wrote, again, spent := 0, 0, 0
	for i := range 8000 {
		g := d.graph(d.upTo(11) + 1)
		switch i % 8 {
		case 0, 2, 4:
			g = d.anyData(d.upTo(11) + 1)
		case 6:
			g = d.graph(d.upTo(40) + 20) // often too long
		}
		if checkOtherWay(t, g) {
			wrote++
			if checkReadAgain(t, g) {
				again++
			}
		} else {
			spent++
		}
		if t.Failed() {
			return // one graph is enough to tell
		}
	}
	if wrote < 6000 || wrote-again < 20 || spent < 20 {
		t.Errorf("%d written, %d of these read again, %d not written", wrote, again, spent)
	}
}

// checkOtherWay holds what is written of data that are ok against the other way; it says whether they can be written.
func checkOtherWay(t *testing.T, d impl.ReadData) bool {
	t.Helper()
	print, printed, show, shown := written(t, d)
	if want, ok := otherWritten(d, false); print != want || printed != ok {
		t.Errorf("%v: written %s %v, not %s %v", d, print, printed, want, ok)
	}
	if want, ok := otherWritten(d, true); show != want || shown != ok {
		t.Errorf("%v: shown %s %v, not %s %v", d, show, shown, want, ok)
	}
	return printed
}

// everySmallGraph tells all data of so many nodes of a few Sorts, whose root is the first.
func everySmallGraph(size int, tell func(d impl.ReadData)) {
	kinds := []impl.ReadNode{node(impl.ReadNil, ""), node(impl.ReadSymbol, "a"), node(impl.ReadRow, "")}
	for first := range size {
		kinds = append(kinds, node(impl.ReadRow, "", first))
		for second := range size {
			kinds = append(kinds, node(impl.ReadPair, "", first, second))
		}
	}
	d := data(make([]impl.ReadNode, size)...)
	var from func(at int)
	from = func(at int) {
		if at == size {
			tell(d)
			return
		}
		for _, d.Nodes[at] = range kinds {
			from(at + 1)
		}
	}
	from(0)
}

// TestP3EverySmallGraph has all data of up to three nodes: those that are the same, and none but those, are written alike.
func TestP3EverySmallGraph(t *testing.T) {
	texts, least := map[string]string{}, map[string]string{} // by what the data are, each once, and by their text: the other one of the two
	for size := 1; size <= 3; size++ {
		everySmallGraph(size, func(d impl.ReadData) {
			if t.Failed() {
				return
			}
			checkOtherWay(t, d)
			checkReadAgain(t, d)
			text, _ := impl.ReadPrint(d)
			once := fmt.Sprint(otherMin(rootsOf(d)))
			if known, met := texts[once]; met && known != text {
				t.Errorf("%s is written %s, and %s", once, known, text)
			}
			if known, met := least[text]; met && known != once {
				t.Errorf("%s and %s are both written %s", known, once, text)
			}
			texts[once], least[text] = text, once
		})
	}
	if len(texts) < 300 {
		t.Errorf("%d data that are not the same", len(texts))
	}
}

// checkAlike holds promise 3, and 5, of two data that can be written; it says whether they are the same.
func checkAlike(t *testing.T, a impl.ReadData, b impl.ReadData) bool {
	t.Helper()
	same := checkSame(t, a, b)
	first, firstOk := impl.ReadPrint(a)
	second, secondOk := impl.ReadPrint(b)
	if !firstOk || !secondOk {
		if same && firstOk != secondOk {
			t.Errorf("%v is written: %v, and %v: %v", a, firstOk, b, secondOk)
		}
		return same
	}
	if alike := first == second && len(a.Roots) == len(b.Roots); alike != same {
		t.Errorf("%v and %v are the same: %v, and written %s and %s", a, b, same, first, second)
	}
	return same
}

// sameTexts has in each row texts whose data are the same; no two rows have the same data.
func sameTexts() [][]string {
	return [][]string{
		{"(a b)", "(a . (b))", "(a b . ())", "#0=(a b)", "(#;c a b)"},
		{"#0=(a b . #0#)", "#0=(a b a b . #0#)", "(a . #0=(b a . #0#))", "(a b . #0=(a b . #0#))", "#0=(a . #1=(b a . #2=(b . #0#)))"},
		{"#0=(b a . #0#)", "(b . #0=(a b . #0#))"},
		{"#0=#(#0#)", "#0=#(#(#0#))", "#(#0=#(#(#(#0#))))"},
		{"#0=(#0# . #0#)", "(#0=(#0# . #0#) . #0#)", "#0=(#1=(#1# . #0#) . #1#)"},
		{"(#0=(a) #0#)", "((a) (a))", "((a) #0=(a))"},
		{"(#0=(a . #0#) #0#)", "(#0=(a . #0#) #1=(a a . #1#))"},
		{"#0=#((a #0#))", "#((a #0=#((a #0#))))"},
		{"'a 'a", "#0='a (quote a)"},
		{"", "#;a"}, {"()", "#0=()"}, {"() ()"}, {"() () ()"}, {"a"}, {"a a"}, {"a b"}, {"b a"}, {"()  a"}, {"a ()"}, {"(a)"}, {"(a . a)"}, {"(a b c)"}, {"(a . b)"}, {"#(a b)"}, {"#(a b ())"}, {"(a (b))"}, {"((a) b)"}, {"#0=(a b #0#)"},
		{"1", "2/2", "#x1"}, {"#\\1"}, {"\"1\""}, {"#u8(1)"}, {"#t"}, {"t"}, {"\"t\""}, {"#\\t"}, {"#()"}, {"#u8()"}, {"\"\""}, {"\"()\""}, {"\"a\""}, {"\"a\\na\""},
		{"#0=(a . #0#) #0=(a . #0#)", "#0=(a . #0#) (a a . #1=(a . #1#))"},
	}
}

func TestP3Alike(t *testing.T) {
	for i, row := range sameTexts() {
		for k, others := range sameTexts() {
			for _, text := range row {
				for _, other := range others {
					a, _ := parse(t, text)
					b, _ := parse(t, other)
					if same := checkAlike(t, a, b); same != (i == k) {
						t.Errorf("%s and %s: the same %v", text, other, same)
					}
				}
			}
		}
	}
}

// TestP3OtherNodes has the same trees by different nodes, told several times, and nodes that no root comes to.
func TestP3OtherNodes(t *testing.T) {
	pairOf := func(first int, second int) impl.ReadNode { return node(impl.ReadPair, "", first, second) }
	a, end := node(impl.ReadSymbol, "a"), node(impl.ReadNil, "")
	for _, d := range []struct{ one, other impl.ReadData }{
		{data(a), data(a, a, end, pairOf(3, 3))},
		{data(pairOf(1, 2), a, end), data(pairOf(3, 2), a, end, a, pairOf(4, 0))},
		{data(pairOf(1, 0), a), data(pairOf(1, 2), a, pairOf(3, 0), a)},
		{data(pairOf(1, 0), a), impl.ReadData{Nodes: []impl.ReadNode{a, pairOf(0, 2), pairOf(0, 3), pairOf(0, 1)}, Roots: []int{3}}},
		{data(pairOf(0, 0)), data(pairOf(1, 2), pairOf(2, 0), pairOf(0, 1))},
		{impl.ReadData{}, impl.ReadData{Nodes: []impl.ReadNode{a, pairOf(1, 1)}}},
		{impl.ReadData{Nodes: []impl.ReadNode{a}, Roots: []int{0, 0, 0}}, impl.ReadData{Nodes: []impl.ReadNode{end, a, a}, Roots: []int{2, 1, 2}}},
		{data(node(impl.ReadRow, "", 1, 1), end), data(node(impl.ReadRow, "", 1, 2), end, end)},
	} {
		if !checkAlike(t, d.one, d.other) {
			t.Errorf("%v and %v are not the same", d.one, d.other)
		}
	}
}

// TestP3ByChance has data, the same by other nodes, some with one thing bent, and others.
func TestP3ByChance(t *testing.T) {
	d := &dice{state: 42}
	same := map[bool]int{}
	for i := range 6000 {
		g := d.graph(d.upTo(9) + 1)
		if i%3 == 0 {
			g = d.anyData(d.upTo(9) + 1)
		}
		if !checkAlike(t, g, d.disguised(g)) {
			t.Errorf("%v is not the same by other nodes", g)
		}
		same[checkAlike(t, g, d.bentData(d.disguised(g)))]++
		same[checkAlike(t, d.graph(d.upTo(2)+1), d.graph(d.upTo(2)+1))]++
		if t.Failed() {
			return // one graph is enough to tell
		}
	}
	if same[true] < 1000 || same[false] < 3000 {
		t.Errorf("the same: %v", same)
	}
}
