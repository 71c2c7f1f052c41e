package tests

import (
	"slices"
	"strconv"
	"strings"
	"testing"

	"loop.example/sistab/impl"
)

func TestP13Characters(t *testing.T) {
	checkChars(t, "")
	checkChars(t, "a", "a")
	checkChars(t, "ab\n c", "a", "b", "\n", " ", "c")
	checkChars(t, "é€😀", "é", "€", "😀")
	checkChars(t, "aéb€c😀d", "a", "é", "b", "€", "c", "😀", "d")
	checkChars(t, "\x00", "\x00")
	checkChars(t, "a\x00\x00é\x00", "a", "\x00", "\x00", "é", "\x00")
	checkChars(t, "\r\n\t\x7f", "\r", "\n", "\t", "\x7f")
	checkChars(t, "\ufffd", "\ufffd") // the one that stands for what cannot be written
	checkChars(t, "a\ufffd\ufffdb", "a", "\ufffd", "\ufffd", "b")
	checkChars(t, "e\u0301", "e", "\u0301")
	checkChars(t, "\ufeffa", "\ufeff", "a")
	checkChars(t, "\x7f\u0080\u07ff\u0800\ud7ff\ue000\uffff\U00010000\U0010ffff", "\x7f", "\u0080", "\u07ff", "\u0800", "\ud7ff", "\ue000", "\uffff", "\U00010000", "\U0010ffff")
	for r := range rune(0x110000) { // each one there is
		if r >= 0xd800 && r < 0xe000 {
			continue
		}
		text := "a" + string(r) + "\x80"
		if got, behind := impl.TabChar(portAt(text, 1)); got != string(r) || behind != portAt(text, 1+len(got)) {
			t.Fatalf("%x: %q, then at %d", r, got, behind.At)
		}
	}
}

// TestP13NoCharacters has bytes that are no characters: each is read alone.
func TestP13NoCharacters(t *testing.T) {
	for name, bytes := range map[string]string{
		"the first surrogate": "\xed\xa0\x80", "the last surrogate": "\xed\xbf\xbf", "two surrogates": "\xed\xa0\xbd\xed\xb8\x80",
		"a longer form of byte 0": "\xc0\x80", "a longer form of a": "\xc1\xa1", "of three bytes": "\xe0\x80\xaf", "the longest that is too long, of three": "\xe0\x9f\xbf", "of four bytes": "\xf0\x80\x80\xaf", "the longest that is too long, of four": "\xf0\x8f\xbf\xbf",
		"one above the last": "\xf4\x90\x80\x80", "far above the last": "\xf7\xbf\xbf\xbf", "of five bytes": "\xf8\x88\x80\x80\x80", "of six bytes": "\xfc\x84\x80\x80\x80\x80",
		"of two bytes, cut off": "\xc3", "of three bytes, cut off behind one": "\xe2", "of three bytes, cut off behind two": "\xe2\x82", "of four bytes, cut off behind one": "\xf0", "of four bytes, cut off behind two": "\xf0\x9f", "of four bytes, cut off behind three": "\xf0\x9f\x98",
		"the middle of one alone": "\x80", "the middle of one twice": "\xbf\x80", "254": "\xfe", "255": "\xff", "255 twice": "\xff\xff",
	} {
		each := strings.Split(bytes, "")
		if len(each) != len(bytes) {
			t.Fatalf("%s: %q", name, each)
		}
		checkChars(t, bytes, each...)
		checkChars(t, "a"+bytes+"b", slices.Concat([]string{"a"}, each, []string{"b"})...)
		checkChars(t, "é"+bytes+"é", slices.Concat([]string{"é"}, each, []string{"é"})...)
		checkChars(t, bytes+bytes+"\n", slices.Concat(each, each, []string{"\n"})...)
	}
	for b := range 256 {
		one := string([]byte{byte(b)})
		checkChars(t, one, one)
		checkChars(t, one+"("+one, one, "(", one)
	}
	checkChars(t, "\xc3\xc3\xa9", "\xc3", "é")
	checkChars(t, "\xe2\x82\xe2\x82\xac", "\xe2", "\x82", "€")
	checkChars(t, "\xf0\x9f\x98€", "\xf0", "\x9f", "\x98", "€")
	checkChars(t, "é\xa9", "é", "\xa9")
	checkChars(t, "\xe2\x82a", "\xe2", "\x82", "a")
	checkChars(t, "\xef\xbf\ufffd", "\xef", "\xbf", "\ufffd")
}

// TestP13CharacterAt reads at each place of a text.
func TestP13CharacterAt(t *testing.T) {
	text := "aé\n€😀"
	for at, want := range map[int]string{0: "a", 1: "é", 2: "\xa9", 3: "\n", 4: "€", 5: "\x82", 6: "\xac", 7: "😀", 8: "\x9f", 9: "\x98", 10: "\x80", 11: ""} {
		if got, behind := askChar(t, portAt(text, at)); got != want || behind != portAt(text, at+len(want)) {
			t.Errorf("at %d: %q, then %v", at, got, behind)
		}
		checkPort(t, portAt(text, at))
	}
}

// TestP13Nowhere reads at no place of a text: nothing of all.
func TestP13Nowhere(t *testing.T) {
	for _, text := range []string{"", "a", "é", "a\nb\n", "(a b) c", "(", "\xff", strings.Repeat("a", 5000)} {
		for _, at := range nowhere(text) {
			p := portAt(text, at)
			c, behindChar := askChar(t, p)
			line, behindLine, ok := askLine(t, p)
			d, behindDatum, fault := askDatum(t, p)
			none := impl.TabPort{}
			if c != "" || line != "" || ok || !isNothing(d) || fault != (impl.ReadFault{}) || behindChar != none || behindLine != none || behindDatum != none {
				t.Errorf("%s at %d: %q %s %v %v %+v, then %v %v %v", short(text), at, c, short(line), ok, d, fault, behindChar, behindLine, behindDatum)
			}
		}
		checkEnd(t, text)
	}
}

func TestP13Lines(t *testing.T) {
	checkTextLines(t, "")
	checkTextLines(t, "a", "a")
	checkTextLines(t, "a\n", "a")
	checkTextLines(t, "\n", "")
	checkTextLines(t, "\n\n", "", "")
	checkTextLines(t, "\n\n\n", "", "", "")
	checkTextLines(t, "a\n\n", "a", "")
	checkTextLines(t, "a\n\n\nb", "a", "", "", "b")
	checkTextLines(t, "\na", "", "a")
	checkTextLines(t, "\n\na\n", "", "", "a")
	checkTextLines(t, "a\nb\nc", "a", "b", "c")
	checkTextLines(t, "a\nb\nc\n", "a", "b", "c")
	checkTextLines(t, "a\r\nb\r\n\r\n", "a\r", "b\r", "\r") // byte 13 stays
	checkTextLines(t, "a\rb\r", "a\rb\r")
	checkTextLines(t, "\r\n", "\r")
	checkTextLines(t, "\n\r", "", "\r")
	checkTextLines(t, " \n\t\n ", " ", "\t", " ")
	checkTextLines(t, "é\n€😀\n\ufffd", "é", "€😀", "\ufffd")
	checkTextLines(t, "\x00\n\x00", "\x00", "\x00")
	checkTextLines(t, "é\xff\n\n\x80\xc3\n\xe2\x82", "é\xff", "", "\x80\xc3", "\xe2\x82")
	checkTextLines(t, "\xe2\n\x82\n\xac", "\xe2", "\x82", "\xac")
	checkTextLines(t, "\xf0\x9f\n", "\xf0\x9f")
	checkTextLines(t, "(a ; b\n \"c\nd\"\n#| e\n|#", "(a ; b", " \"c", "d\"", "#| e", "|#") // a line knows of no data
	checkTextLines(t, "a\u2028b\u0085c\vd\fe", "a\u2028b\u0085c\vd\fe")                     // nothing else ends a line
}

// TestP13LineAt reads at each place of a text.
func TestP13LineAt(t *testing.T) {
	text := "ab\n\né\nc"
	for at, want := range map[int]struct {
		line string
		then int
		ok   bool
	}{
		0: {"ab", 3, true}, 1: {"b", 3, true}, 2: {"", 3, true}, 3: {"", 4, true}, 4: {"é", 7, true}, 5: {"\xa9", 7, true}, 6: {"", 7, true}, 7: {"c", 8, true}, 8: {"", 8, false},
	} {
		if line, behind, ok := askLine(t, portAt(text, at)); line != want.line || ok != want.ok || behind != portAt(text, want.then) {
			t.Errorf("at %d: %q %v, then %v", at, line, ok, behind)
		}
		checkPort(t, portAt(text, at))
	}
	// a line that is empty, and the end
	if line, behind, ok := askLine(t, portAt("a\n", 1)); line != "" || !ok || behind != portAt("a\n", 2) {
		t.Errorf("%q %v %v", line, ok, behind)
	}
	if line, behind, ok := askLine(t, portAt("a\n", 2)); line != "" || ok || behind != portAt("a\n", 2) {
		t.Errorf("%q %v %v", line, ok, behind)
	}
}

// TestP13Long has texts that are longer than any that is read as data.
func TestP13Long(t *testing.T) {
	checkPort(t, portAt(strings.Repeat("aé\n", 1500), 0))
	checkPort(t, portAt(strings.Repeat("€", 2000), 1))
	checkPort(t, portAt(strings.Repeat("\xff", 5000)+"\n", 0))
	checkPort(t, portAt(strings.Repeat("\n", 4500), 0))
	long := strings.Repeat("a", 1_000_000)
	checkTextLines(t, long[:9000]+"\n"+long[:8000], long[:9000], long[:8000])
	if line, behind, ok := askLine(t, portAt(long+"\nb", 3)); line != long[3:] || !ok || behind.At != len(long)+1 {
		t.Errorf("%d bytes %v, then at %d", len(line), ok, behind.At)
	}
	if c, behind := askChar(t, portAt(long+"é", len(long))); c != "é" || behind.At != len(long)+2 {
		t.Errorf("%q, then at %d", c, behind.At)
	}
}

// portPieces are what texts of ports are made of by chance.
var portPieces = []string{"a", "\n", "\n\n", "\r\n", "é", "€", "😀", "\ufffd", "\x00", "\xff", "\xc3", "\xe2\x82", "\xed\xa0\x80", "\xc0\x80", "\xf4\x90\x80\x80", "\xf0\x9f\x98", "\x80", " ", "(b) "}

func (d *dice) portText(most int) string {
	text := ""
	for range d.upTo(most) {
		text += portPieces[d.upTo(len(portPieces)-1)]
	}
	return text
}

func TestP13ByChance(t *testing.T) {
	d := &dice{state: 131}
	for range 3000 {
		text := d.portText(12)
		checkPort(t, portAt(text, d.upTo(len(text))))
		if t.Failed() {
			return // one text is enough to tell
		}
	}
}

// TestP13EachByTurns reads characters, lines and data of one port by turns: together they are what was left.
func TestP13EachByTurns(t *testing.T) {
	d := &dice{state: 132}
	for range 1000 {
		text := d.portText(12) + "\n\"s\" 'a\n" + d.portText(5)
		p := portAt(text, d.upTo(len(text)))
		told, left := "", p.Text[p.At:]
		for range 2 * len(text) {
			was := p
			switch d.upTo(2) {
			case 0:
				c, behind := askChar(t, p)
				told, p = told+c, behind
			case 1:
				line, behind, _ := askLine(t, p)
				told, p = told+line, behind
				if behind.At > was.At+len(line) {
					told += "\n"
				}
			default:
				_, behind, fault := askDatum(t, p)
				if fault.Code != 0 && behind != was {
					t.Errorf("%q at %d: %+v, then at %d", text, was.At, fault, behind.At)
				}
				told, p = told+text[was.At:behind.At], behind
			}
		}
		if p.At != len(text) || told != left {
			t.Fatalf("%q: %q was told, then at %d", left, told, p.At)
		}
	}
}

func TestP14Example(t *testing.T) {
	text := "(a #;b)#;c 'x ;end\n 12 #;z"
	checkFirst(t, portAt(text, 0), "(a)", 7)
	checkFirst(t, portAt(text, 7), "(quote x)", 13)
	checkFirst(t, portAt(text, 13), "12", 22)
	checkNoDatum(t, portAt(text, 22))
	checkNoDatum(t, portAt(text, 26))
	checkAllData(t, "(a #;b)«#;c 'x« ;end\n 12« #;z", "(a)", "(quote x)", "12")
}

// TestP14LastToken has a datum of each kind: the port is right behind its last token.
func TestP14LastToken(t *testing.T) {
	for text, want := range map[string]string{
		"a": "a", "6/4": "3/2", "#xff": "255", "-.5": "-1/2", "\"a b\"": "\"a b\"", "\"\\\"\\\\\"": "\"\\\"\\\\\"", "\"\\x41;\"": "\"A\"", "\"\"": "\"\"", "\"é\"": "\"é\"", "\"\n\"": "\"\\n\"", "é": "é", "...": "...",
		"#\\a": "#\\a", "#\\(": "#\\(", "#\\)": "#\\)", "#\\;": "#\\;", "#\\\"": "#\\\"", "#\\ ": "#\\space", "#\\\n": "#\\newline", "#\\'": "#\\'", "#\\space": "#\\space", "#\\x41": "#\\A", "#\\é": "#\\é", "#\\#": "#\\#", "#\\|": "#\\|",
		"#t": "#t", "#false": "#f", "()": "()", "( )": "()", "(;\n)": "()", "(a . (b))": "(a b)", "(a . b)": "(a . b)", "(a . b #;c)": "(a . b)", "(a #;b )": "(a)", "((a) (b))": "((a) (b))",
		"#()": "#()", "#(a #(b) )": "#(a #(b))", "#u8()": "#u8()", "#u8( 1 255 )": "#u8(1 255)",
		"'a": "(quote a)", "' a": "(quote a)", "',@`,a": "(quote (unquote-splicing (quasiquote (unquote a))))", "'#;b a": "(quote a)", "'\n;\na": "(quote a)", "'(a)": "(quote (a))",
		"#0=a": "a", "#0= a": "a", "#0=#;b a": "a", "#7=(a . #7#)": "#0=(a . #0#)", "#0=(a . #0# )": "#0=(a . #0#)", "#0='#0#": "#0=(quote #0#)", "#0=(#1=b #1# c . #0#)": "#0=(b b c . #0#)", "#1=#2=#3=a": "a", "#0=#(#0# #0#)": "#0=#(#0# #0#)",
	} {
		for _, ahead := range []string{"", " ", ";c\n", "#|c|#", "#;b ", "#;(b) #;#;c d "} {
			for _, behind := range []string{"", " ", "\n", " ;c", ";c", "(", ")", " b", "(b)", "\"b\"", "'b", " #;b", " #;", " .", " #0#", "\n#|b|#"} {
				checkFirst(t, portAt(ahead+text+behind, 0), want, len(ahead+text))
				checkFirst(t, portAt("(x "+ahead+text+behind, 3), want, 3+len(ahead+text))
			}
		}
	}
}

// TestP14LeftOut has what is left out ahead of a datum, which goes with it, and behind, which is still to be read.
func TestP14LeftOut(t *testing.T) {
	checkAllData(t, "")
	checkAllData(t, "a«", "a")
	checkAllData(t, "#;a b«", "b")
	checkAllData(t, "a« #;b", "a")
	checkAllData(t, "a« #;b c«", "a", "c")
	checkAllData(t, "#;a #;b c« #;d #;e f« #;g #;h", "c", "f")
	checkAllData(t, "#;#;a b c« #;#;d e f«", "c", "f")
	checkAllData(t, "#;(a #;b c)d«", "d")
	checkAllData(t, "#;'a b« #;\"c\"d« #;#(e)", "b", "d")
	checkAllData(t, "#;#0=(a . #0#) #0=(b . #0#)« #;#0=c", "#0=(b . #0#)")
	checkAllData(t, "#;\n;c\na b«;\n", "b")
	checkAllData(t, "(#;a b #;c)« '#;d e«", "(b)", "(quote e)")
	for _, text := range []string{"", " ", "\n\t\r ", ";", "; a", ";a\n", "#||#", "#| a #| b |# |# ; c", "#;a", "#;a ", " #;a #;b", "#;#;a b", "#;(a . b) ;c\n #;'d", "#;#0=(a . #0#)#|c|#", "#;\"a\"", "#;#\\("} {
		checkNoDatum(t, portAt(text, 0))
		checkNoDatum(t, portAt("(a "+text, 3))
		checkNoDatum(t, portAt("é"+text, 2))
		checkAllData(t, text)
		checkAllData(t, "a«;\n"+text, "a")
	}
}

func TestP14Between(t *testing.T) {
	checkAllData(t, " a« b« ", "a", "b")
	checkAllData(t, "\n\t\ra«\n\n b«\r\n", "a", "b")
	checkAllData(t, "; x\na« ; y\n; z\n b« ; w", "a", "b")
	checkAllData(t, "#|x|#a« #|y #|z|# |#b« #|w|#", "a", "b")
	checkAllData(t, "()«()«", "()", "()")
	checkAllData(t, "(a)«(b)«", "(a)", "(b)")
	checkAllData(t, "a«(b)«c«", "a", "(b)", "c")
	checkAllData(t, "a«\"b\"«c«", "a", "\"b\"", "c")
	checkAllData(t, "\"a\"«\"b\"«", "\"a\"", "\"b\"")
	checkAllData(t, "a«'b«'c«", "a", "(quote b)", "(quote c)")
	checkAllData(t, "#\\(«#\\)«(a)«", "#\\(", "#\\)", "(a)")
	checkAllData(t, "#u8(1)«#(2)«", "#u8(1)", "#(2)")
	checkAllData(t, "1«(2)«3«", "1", "(2)", "3")
	checkAllData(t, "\"a\"«b«", "\"a\"", "b")
	checkAllData(t, "#0=(a . #0#)«#0=(b . #0#)«", "#0=(a . #0#)", "#0=(b . #0#)")
	checkAllData(t, "a«;b\nc«", "a", "c")
	checkAllData(t, "#0=a« #0=a« #1=a«", "a", "a", "a") // the same label in two data, and the same data
	checkAllData(t, "(#0=a #0#)« (#0=b #0#)« #0='#0#«", "(a a)", "(b b)", "#0=(quote #0#)")
	checkAllData(t, "é« \"€\"« #\\😀«", "é", "\"€\"", "#\\😀")
}

func TestP14Faults(t *testing.T) {
	long := strings.Repeat("a", 201)
	wide := "#(" + names("a", 41)
	for text, code := range map[string]int{
		"«1b": 1, " «#q": 1, "(a «1b)": 1, "«\"": 1, "«#| c": 1, "« #| c": 1, "«" + long: 1, "«\xff": 1, "é «\"\\q\"": 1,
		"«)": 2, " «)": 2, "«)(": 2, "(": 2, " (a": 2, "#;": 2, "#;«)": 2, "#; a #;": 2, "#;(a": 2, "'": 2, "'«)": 2, "#0=": 2, "#(a": 2, "#u8(1": 2, "(a . ": 2, "(a . b": 2, "('«)": 2, "#;a «)": 2, "(a . #;b «)": 2,
		"«. a": 3, "(«. a)": 3, "(a . «)": 3, "(a . b «c)": 3, "#(a «. b)": 3, "#;(«. a) b": 3, "(\"é\" . b «c) d": 3, "#;«.": 3,
		"«#0#": 4, "(a «#0#)": 4, "(#0=a «#0=b)": 4, "«#0=#0#": 4, "#;#0=a «#0#": 4, "#;(a «#0#) b": 4,
		"#u8(«a)": 5, "#u8(1 «256)": 5, "#u8(" + strings.Repeat("0 ", 200) + "«0)": 5, "#;#u8(«-1) a": 5,
		wide + "«)": 6, "(" + wide + "«) a": 6, "#;" + wide + "«) a": 6,
		"(" + strings.Repeat("a ", 299) + "«) b": 7, strings.Repeat(" ", 4001): 7, "a" + strings.Repeat(" ", 4000): 7,
	} {
		checkDatumFault(t, text, code)
	}
}

// TestP14FaultBehind has a fault behind the first datum: of ReadTokens it is told all the same, of reading not with this datum.
func TestP14FaultBehind(t *testing.T) {
	for text, code := range map[string]int{
		"a «1b": 1, "(a b) c «#q": 1, "a (b «\"": 1, "a« #| c": 1, "#;a b c d e f «\xff g": 1, "a ) . #0# «1b": 1, "(a" + strings.Repeat(" b", 200) + ") «\\": 1,
		"a " + strings.Repeat("b ", 299) + "«c": 7, "a ;" + strings.Repeat("c", 3998): 7, "(a)" + strings.Repeat("\n", 3998): 7,
	} {
		checkDatumFault(t, text, code)
	}
	for _, behind := range []string{")", " )", " .", " . b", " #0#", "(", " (b", " '", " #;", "#;", "#;)", "#;(", " #u8(a)", " #u8(256)", " (b . )", " #(" + names("a", 41) + ")", " (" + names("a", 80) + ")", " " + names("b", 13)} {
		checkFirst(t, portAt("(a)"+behind, 0), "(a)", 3)
		checkFirst(t, portAt(" #;(b . c) #\\)"+behind, 0), "#\\)", 14)
		checkFirst(t, portAt("a )"+behind, 0), "a", 1)
	}
	// it is told with the next one, by the place in what is left
	checkFirst(t, portAt("#0=(a . #0#) #0#", 0), "#0=(a . #0#)", 12)
	_, behind, fault := askDatum(t, portAt("#0=(a . #0#) #0#", 12))
	if fault != (impl.ReadFault{At: 1, Code: impl.ReadBadLabel}) || behind.At != 12 {
		t.Errorf("%+v, then at %d", fault, behind.At)
	}
}

// TestP14FaultOfPart has a port in the midst of data: what is ahead of it is nothing to it.
func TestP14FaultOfPart(t *testing.T) {
	text := "(a \"b c\" . #0=(1 . #0#)) d"
	for at, want := range map[int]struct {
		print string
		then  int
		fault impl.ReadFault
	}{
		0:  {"(a \"b c\" . #0=(1 . #0#))", 24, impl.ReadFault{}},
		1:  {"a", 2, impl.ReadFault{}},
		3:  {"\"b c\"", 8, impl.ReadFault{}},
		4:  {"", 4, impl.ReadFault{At: 3, Code: impl.ReadBadToken}}, // its last quote begins a string that does not end
		8:  {"", 8, impl.ReadFault{At: 1, Code: impl.ReadBadDot}},
		10: {"#0=(1 . #0#)", 23, impl.ReadFault{}},
		12: {"", 12, impl.ReadFault{Code: impl.ReadBadToken}},
		14: {"", 14, impl.ReadFault{At: 5, Code: impl.ReadBadLabel}},
		15: {"1", 16, impl.ReadFault{}},
		18: {"", 18, impl.ReadFault{At: 1, Code: impl.ReadBadLabel}},
		23: {"", 23, impl.ReadFault{Code: impl.ReadUneven}},
		24: {"d", 26, impl.ReadFault{}},
		25: {"d", 26, impl.ReadFault{}},
	} {
		d, behind, fault := askDatum(t, portAt(text, at))
		if print, _ := impl.ReadPrint(d); print != want.print || behind != portAt(text, want.then) || fault != want.fault {
			t.Errorf("at %d: %s %+v, then at %d", at, print, fault, behind.At)
		}
	}
	for at := range len(text) + 1 {
		askDatum(t, portAt(text, at))
		checkAsParsed(t, portAt(text, at))
	}
	// within a character of several bytes
	checkDatumFault(t, "«\xa9 a", impl.ReadBadToken)
	if _, behind, fault := askDatum(t, portAt("é a", 1)); fault != (impl.ReadFault{Code: impl.ReadBadToken}) || behind.At != 1 {
		t.Errorf("%+v, then at %d", fault, behind.At)
	}
	checkNoDatum(t, portAt("é;a", 2))
}

// ending is the text of a list of so many symbols that ends in a symbol.
func ending(name string, count int, last string) string {
	return "(" + names(name, count) + " . " + last + ")"
}

// TestP14MostNodes has data of just as many nodes as may be, of one more, and many data that are more only together.
func TestP14MostNodes(t *testing.T) {
	fits, more := ending("a", 40, "a1"), ending("a", 40, "b") // 80 nodes and 81
	if d := datumOf(t, fits); len(d.Nodes) != impl.ReadMaxNodes {
		t.Fatalf("%d nodes", len(d.Nodes))
	}
	checkFirst(t, portAt(fits, 0), fits, len(fits))
	checkFirst(t, portAt("#;"+more+fits+more, 0), fits, 2+len(more+fits)) // what is left out is no node of it, nor is what is behind
	checkFirst(t, portAt("b "+more, 0), "b", 1)
	checkDatumFault(t, more, impl.ReadTooMany)
	checkDatumFault(t, " \n"+more+" b", impl.ReadTooMany)
	checkDatumFault(t, "#;a "+more, impl.ReadTooMany)
	checkDatumFault(t, more+" )", impl.ReadTooMany)
	checkDatumFault(t, "(#("+names("b", 41)+"«) . "+more+")", impl.ReadTooMany) // the first fault is that of the vector
	checkDatumFault(t, "(a . "+more, impl.ReadUneven)
	other := ending("b", 40, "b1")
	checkAllData(t, fits+"«"+other+"«", fits, other)
	checkAllData(t, fits+"« "+fits+"« c«", fits, fits, "c")
	third := ending("a", 20, "b")
	checkAllData(t, third+"«"+ending("c", 20, "d")+"«#;e\n"+ending("f", 20, "g")+"«", third, ending("c", 20, "d"), ending("f", 20, "g"))
	if _, fault := impl.ReadParse(fits + other); fault != (impl.ReadFault{Code: impl.ReadTooMany}) {
		t.Errorf("together: %+v", fault)
	}
}

// TestP14MostRoots has more data than ReadParse reads of one text.
func TestP14MostRoots(t *testing.T) {
	for _, count := range []int{11, 12, 13, 40, 300} {
		text := names("a", count)
		p := portAt(text, 0)
		for i := range count {
			want := "a" + strconv.Itoa(i)
			next := p.At + len(want)
			if i > 0 {
				next++
			}
			checkFirst(t, p, want, next)
			p.At = next
		}
		checkNoDatum(t, p)
		if got := checkAsParsed(t, portAt(text, 0)); got != (count <= impl.ReadMaxRoots) {
			t.Errorf("%d data: %v", count, got)
		}
	}
	checkDatumFault(t, strings.Repeat("a ", 300)+"«a", impl.ReadTooLong)
	text := strings.Repeat("a ", 301)
	checkFirst(t, portAt(text, 1), "a", 3) // one token less is left
}

func TestP14LongestText(t *testing.T) {
	const most = impl.ReadMaxText
	checkFirst(t, portAt("a"+strings.Repeat(" ", most-1), 0), "a", 1)
	checkFirst(t, portAt(strings.Repeat("\n", most-1)+"a", 0), "a", most)
	checkNoDatum(t, portAt(strings.Repeat("\n", most), 0))
	checkNoDatum(t, portAt(strings.Repeat("\n", 3*most), 2*most))
	checkDatumFault(t, "a"+strings.Repeat(" ", most), impl.ReadTooLong)
	checkDatumFault(t, "1b"+strings.Repeat(" ", most), impl.ReadTooLong)
	checkDatumFault(t, "a"+strings.Repeat("\n", 100_000), impl.ReadTooLong)
	// a long text of which less is left
	long := strings.Repeat("(1b ", 5000)
	checkFirst(t, portAt(long+" b c", len(long)), "b", len(long)+2)
	checkFirst(t, portAt(long+"#;a b"+strings.Repeat(" ", most-5), len(long)), "b", len(long)+5)
	_, behind, fault := askDatum(t, portAt(long+"#;a b"+strings.Repeat(" ", most-4), len(long)))
	if fault != (impl.ReadFault{Code: impl.ReadTooLong}) || behind.At != len(long) {
		t.Errorf("%+v, then at %d", fault, behind.At)
	}
}

// TestP14Lines has a long text, the lines of which are read each by itself.
func TestP14Lines(t *testing.T) {
	text := strings.Repeat("(a b)\n", 1000)
	checkDatumFault(t, text, impl.ReadTooLong)
	p := portAt(text, 0)
	for range 1000 {
		line, behind, ok := impl.TabLine(p)
		if d, end, fault := impl.TabDatum(portAt(line, 0)); !ok || len(d.Nodes) != 5 || end.At != len(line) || fault.Code != 0 {
			t.Fatalf("at %d: %q %v, %v, then at %d, %+v", p.At, line, ok, d, end.At, fault)
		}
		p = behind
	}
	checkEnd(t, p.Text)
}

// TestP14AnotherWay has many texts: the data of each, one behind the other, are those that ReadParse reads.
func TestP14AnotherWay(t *testing.T) {
	d := &dice{state: 141}
	whole, faults := 0, map[int]int{}
	texts := manyTexts(1500)
	for i := range 4000 {
		texts = append(texts, d.chance(i%2 == 0))
	}
	for _, text := range texts {
		p := portAt(text, 0)
		for turn := 0; turn <= len(text); turn++ {
			_, behind, fault := askDatum(t, p)
			faults[fault.Code]++
			if fault.Code != 0 || behind.At == len(text) {
				break
			}
			p = behind
		}
		askDatum(t, portAt(text, d.upTo(len(text))))
		if checkAsParsed(t, portAt(text, 0)) {
			whole++
		}
		if t.Failed() {
			return // one text is enough to tell
		}
	}
	if whole < 1500 {
		t.Errorf("%d texts have no fault", whole)
	}
	for code, least := range map[int]int{0: 4000, 1: 1000, 2: 200, 3: 100, 4: 50, 5: 3} {
		if faults[code] < least {
			t.Errorf("faults by code: %v", faults)
		}
	}
}

// TestP14EveryShortText has every text of up to four tokens.
func TestP14EveryShortText(t *testing.T) {
	texts, last := []string{""}, []string{""}
	for range 4 {
		next := []string{}
		for _, text := range last {
			for _, word := range readWords {
				next = append(next, text+word+" ")
			}
		}
		texts, last = append(texts, next...), next
	}
	for _, text := range texts {
		_, behind, fault := askDatum(t, portAt(text, 0))
		if fault.Code == 0 {
			askDatum(t, behind)
		}
		checkAsParsed(t, portAt(text, 0))
		if t.Failed() {
			return
		}
	}
}
