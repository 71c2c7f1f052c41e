package tests

import (
	"slices"
	"strconv"
	"strings"
	"testing"

	"loop.example/sistab/impl"
)

// enders are the bytes that end a word, by what stands there then.
var enders = map[string][]string{
	" ": {}, "\t": {}, "\n": {}, "\r": {}, "(": {open}, ")": {shut}, "\"\"": {str("")}, ";": {}, "'": {quote("quote")},
}

// noEnders are printed bytes that end no word, though they begin another token or stand in one.
const noEnders = "`,@#|\\[]{}:=/.+-!~_^"

func TestP6EachRow(t *testing.T) {
	checkTokens(t, ";")
	checkTokens(t, "; a (\" #| '")
	checkTokens(t, "#||#")
	checkTokens(t, "#| ( \" ; ' \n |#")
	checkTokens(t, "(", open)
	checkTokens(t, ")", shut)
	checkTokens(t, "'", quote("quote"))
	checkTokens(t, "`", quote("quasiquote"))
	checkTokens(t, ",@", quote("unquote-splicing"))
	checkTokens(t, ",", quote("unquote"))
	checkTokens(t, `""`, str(""))
	checkTokens(t, `"a b;c'(d)#|"`, str("a b;c'(d)#|"))
	checkTokens(t, "#(", vector)
	checkTokens(t, "#u8(", raw)
	checkTokens(t, "#;", drop)
	checkTokens(t, "#t", boolean("t"))
	checkTokens(t, ".", dot)
	checkTokens(t, "12", number("12"))
	checkTokens(t, "word", symbol("word"))
	checkTokens(t, "(define (f x) '(x . \"y\"))",
		open, symbol("define"), open, symbol("f"), symbol("x"), shut, quote("quote"), open, symbol("x"), dot, str("y"), shut, shut)
	checkPlaces(t, "(define (f x) '(x . \"y\"))", 0, 1, 8, 9, 11, 12, 14, 15, 16, 18, 20, 23, 24)
}

func TestP6Kinds(t *testing.T) {
	tokens := read(t, "( ) . ' #( #u8( #1= #1# #; 1 a \"s\" #\\c #t")
	want := []impl.ReadToken{
		{Kind: 1}, {Kind: 2, At: 2}, {Kind: 3, At: 4}, {Kind: 4, Text: "quote", At: 6}, {Kind: 5, At: 8}, {Kind: 6, At: 11},
		{Kind: 7, Text: "1", At: 16}, {Kind: 8, Text: "1", At: 20}, {Kind: 9, At: 24}, {Kind: 10, Sort: 1, Text: "1", At: 27},
		{Kind: 10, Sort: 2, Text: "a", At: 29}, {Kind: 10, Sort: 3, Text: "s", At: 31}, {Kind: 10, Sort: 4, Text: "c", At: 35},
		{Kind: 10, Sort: 5, Text: "t", At: 39},
	}
	if !slices.Equal(tokens, want) {
		t.Errorf("%v", tokens)
	}
}

func TestP6NothingToRead(t *testing.T) {
	for _, text := range []string{"", " ", "\t", "\n", "\r", " \t\r\n \n", ";", ";\n", "; c\n;\n", "#||#", " #|x|# ; y\n\t#|#|z|#|#\r", ";\xff\xed\xa0\x80"} {
		checkTokens(t, text)
	}
}

func TestP6NotBlank(t *testing.T) {
	for _, text := range []string{"\v", "\f", "\x00", "\x1c", "\x7f", "\b", "a\vb", "a\x00", "\x1fa"} {
		checkBad(t, text)
	}
	for _, text := range []string{"\u0085", "\u00a0", "\u2028", "\u3000", "\ufeff", "a\u00a0b"} {
		checkTokens(t, text, symbol(text)) // blank elsewhere, characters here
	}
}

func TestP6LineComments(t *testing.T) {
	checkTokens(t, "a;b", symbol("a"))
	checkTokens(t, "a;b\nc", symbol("a"), symbol("c"))
	checkTokens(t, "a;b\rc", symbol("a"))
	checkTokens(t, "a;#|\nb", symbol("a"), symbol("b"))
	checkTokens(t, ";;;a\n;b;c\nd", symbol("d"))
	checkTokens(t, ";\\\nd", symbol("d"))
	checkTokens(t, "a ;\xff\x80\xc3(\n b", symbol("a"), symbol("b"))
	checkPlaces(t, ";12\n a;\nb", 5, 8)
}

func TestP6NestedComments(t *testing.T) {
	checkTokens(t, "#|#|a|#|#b", symbol("b"))
	checkTokens(t, "#|#|#|a|#b|#c|#d", symbol("d"))
	checkTokens(t, "#| a |# b #| c |#", symbol("b"))
	checkTokens(t, "#|||#b", symbol("b"))
	checkTokens(t, "#||##||#b", symbol("b"))
	checkTokens(t, "#|##||#|#b", symbol("b"))
	checkFault(t, "#||#||#|#", 4, impl.ReadBadToken)
}

func TestP6CommentsThatDoNotEnd(t *testing.T) {
	for text, at := range map[string]int{
		"#|": 0, " #|": 0, "\n\t #|x": 0, "#|#": 0, "#|a|": 0, "#|#|a|#": 0, "#|#|#": 0, "; c\n#|": 0, "#|a|# #|b": 0, " #|a|#;\n #|b|": 0,
		"a #|": 1, "abc \n #| x": 3, "(#|": 1, "()#|x": 2, "\"s\"#|": 3, "'#|": 1, ",@#|": 2, "#;#|": 2, "#1=#|": 3, "#\\(#|": 3, "a ;b\n ;c\n#|d|#\n#|#|e|#": 1,
		"a b\t#||##|": 3, "a #|b|# c #|d": 9, "#|\xff\xe2|\xc3": 0,
	} {
		checkFault(t, text, at, impl.ReadBadToken)
	}
	checkBad(t, "|#")
	checkBad(t, "a#|b|#")
	checkBad(t, "a#|")
	checkFault(t, "#||# |#", 5, impl.ReadBadToken)
	checkFault(t, "#|a|#|#", 5, impl.ReadBadToken)
	checkFault(t, "#|;|#|", 5, impl.ReadBadToken)     // `;` means nothing within,
	checkFault(t, "#|\"|#\"|#", 5, impl.ReadBadToken) // nor does a string
}

func TestP6Quotes(t *testing.T) {
	checkTokens(t, "a ,@", symbol("a"), quote("unquote-splicing"))
	checkTokens(t, "a ,", symbol("a"), quote("unquote"))
	checkTokens(t, ",,@,@,`''", quote("unquote"), quote("unquote-splicing"), quote("unquote-splicing"), quote("unquote"), quote("quasiquote"), quote("quote"), quote("quote"))
	checkTokens(t, ", @", quote("unquote"), symbol("@"))
	checkTokens(t, ",@@", quote("unquote-splicing"), symbol("@"))
	checkTokens(t, "`a`b,c,@d", quote("quasiquote"), symbol("a`b,c,@d"))
	checkTokens(t, "'a'b", quote("quote"), symbol("a"), quote("quote"), symbol("b"))
	checkPlaces(t, "'a'b,@c", 0, 1, 2, 3)
	checkPlaces(t, ",,@ ,@,", 0, 1, 4, 6)
}

func TestP6HashBeginnings(t *testing.T) {
	for _, text := range []string{"#", "#u", "#u8", "#u8)", "#u8 (", "#u(", "#U8(", "#u88(", "#u7(", "# (", "# ;", "##", "#'", "#)", "#\"\"", "#,", "#`", "#q", "#:", "#!", "#=", "#é", "#\xff", "#a", "#.", "#-1", "#+"} {
		checkBad(t, text)
	}
	checkTokens(t, "#(#u8(#;", vector, raw, drop)
	checkTokens(t, "#;#;a", drop, drop, symbol("a"))
	checkTokens(t, "#;;a", drop)
	checkFault(t, "#;|", 2, impl.ReadBadToken)
}

func TestP6WordEnds(t *testing.T) {
	for ender, behind := range enders {
		checkTokens(t, "ab"+ender, append([]string{symbol("ab")}, behind...)...)
		checkTokens(t, "1/2"+ender, append([]string{number("1/2")}, behind...)...)
		checkTokens(t, "."+ender, append([]string{dot}, behind...)...)
		checkTokens(t, "#t"+ender, append([]string{boolean("t")}, behind...)...)
		checkTokens(t, "#xf"+ender, append([]string{number("15")}, behind...)...)
		checkTokens(t, "#1="+ender, append([]string{mark("1")}, behind...)...)
		checkTokens(t, "é"+ender, append([]string{symbol("é")}, behind...)...)
		checkBad(t, "#q"+ender)
		checkBad(t, "#1"+ender)
		checkBad(t, "1a"+ender)
	}
	for _, r := range noEnders + "é" {
		if r != '|' && r != '\\' {
			checkTokens(t, "a"+string(r)+"b", symbol("a"+string(r)+"b"))
		}
		checkBad(t, "#t"+string(r))
		checkBad(t, "#false"+string(r)+"b")
		checkTokens(t, `#\`+string(r), character(string(r)))
		checkBad(t, `#\a`+string(r))
		checkBad(t, `#\`+string(r)+"a")
	}
	checkPlaces(t, "ab(c)d\"e\"f'g;h\ni", 0, 2, 3, 4, 5, 6, 9, 10, 11, 15)
}

func TestP6CharacterEnds(t *testing.T) {
	for ender, behind := range enders {
		first := ender[:1]
		checkTokens(t, `#\`+first, character(first))
		checkTokens(t, `#\`+first+ender, append([]string{character(first)}, behind...)...)
		checkTokens(t, `#\`+first+"a", character(first), symbol("a"))
		checkTokens(t, `#\`+first+"x41", character(first), symbol("x41"))
		checkTokens(t, `#\a`+ender, append([]string{character("a")}, behind...)...)
		checkTokens(t, `#\é`+ender, append([]string{character("é")}, behind...)...)
		checkTokens(t, `#\space`+ender, append([]string{character(" ")}, behind...)...)
		checkTokens(t, `#\x41`+ender, append([]string{character("A")}, behind...)...)
	}
	checkPlaces(t, `#\(#\)#\'#\;#\"a`, 0, 3, 6, 9, 12, 15)
	checkFault(t, `#\`, 0, impl.ReadBadToken)
	checkFault(t, "a\n#\\", 2, impl.ReadBadToken)
}

func TestP6Characters(t *testing.T) {
	for text, want := range map[string]string{
		`#\space`: " ", `#\newline`: "\n", `#\tab`: "\t", `#\null`: "\x00",
		`#\a`: "a", `#\A`: "A", `#\0`: "0", `#\x`: "x", `#\s`: "s", `#\n`: "n", `#\#`: "#", `#\\`: `\`, `#\|`: "|", `#\.`: ".", `#\,`: ",",
		"#\\\x00": "\x00", "#\\\x01": "\x01", "#\\\x7f": "\x7f", "#\\\v": "\v", `#\é`: "é", `#\λ`: "λ", `#\€`: "€", `#\😀`: "😀", "#\\\ufffd": "\ufffd", "#\\\ufeff": "\ufeff", "#\\\U0010ffff": "\U0010ffff", "#\\\ud7ff": "\ud7ff", "#\\\ue000": "\ue000", "#\\\u0080": "\u0080",
		`#\x0`: "\x00", `#\x000000`: "\x00", `#\x1`: "\x01", `#\x9`: "\t", `#\xa`: "\n", `#\xf`: "\x0f", `#\x41`: "A", `#\x041`: "A", `#\x000041`: "A", `#\x7f`: "\x7f", `#\x80`: "\u0080", `#\xff`: "ÿ", `#\x3bb`: "λ", `#\xfffd`: "\ufffd", `#\xffff`: "\uffff", `#\xd7ff`: "\ud7ff", `#\xe000`: "\ue000", `#\x10000`: "\U00010000", `#\x1f600`: "😀", `#\x10ffff`: "\U0010ffff", `#\x00d7ff`: "\ud7ff",
	} {
		checkTokens(t, text, character(want))
	}
	for _, text := range []string{
		`#\x110000`, `#\xffffff`, `#\xd800`, `#\xdbff`, `#\xdc00`, `#\xdfff`, `#\x00d800`, `#\x0000041`, `#\x0000000`, `#\x1000041`, `#\x10000000000000041`,
		`#\xA`, `#\xFF`, `#\x4F`, `#\X41`, `#\xg`, `#\x-1`, `#\x+1`, `#\x4_1`, `#\x41x`, `#\xx41`, `#\x０`, `#\u41`,
		`#\Space`, `#\SPACE`, `#\spac`, `#\spaces`, `#\Newline`, `#\newlin`, `#\newlines`, `#\tabs`, `#\ta`, `#\nul`, `#\nulls`, `#\return`, `#\delete`, `#\ab`, `#\aé`, `#\éa`, `#\éé`, "#\\e\u0301", `#\\n`, `#\\\`,
		"#\\\xff", "#\\\x80", "#\\\xbf", "#\\\xc3", "#\\\xc3\x28", "#\\\xe2\x82", "#\\\xc0\x80", "#\\\xc1\xbf", "#\\\xe0\x80\xaf", "#\\\xe0\x9f\xbf", "#\\\xf0\x80\x80\xaf", "#\\\xf0\x8f\xbf\xbf", "#\\\xed\xa0\x80", "#\\\xed\xbf\xbf", "#\\\xf4\x90\x80\x80", "#\\\xf8\x88\x80\x80\x80", "#\\\xfe", "#\\a\xff", "#\\x41\xff", "#\\\xc3 ",
	} {
		checkBad(t, text)
	}
}

func TestP6Strings(t *testing.T) {
	for text, want := range map[string]string{
		`""`: "", `"a"`: "a", `" a "`: " a ", "\"a\nb\r\t\"": "a\nb\r\t", `"\n"`: "\n", `"\t"`: "\t", `"\""`: `"`, `"\\"`: `\`, `"\\n"`: `\n`, `"\\\""`: `\"`, `"\\\\"`: `\\`,
		`"\x41;"`: "A", `"a\x41;b"`: "aAb", `"\x0;"`: "\x00", `"\x00000a;"`: "\n", `"\x22;"`: `"`, `"\x5c;n"`: `\n`, `"\x3bb;\x3bb;"`: "λλ", `"\x10ffff;"`: "\U0010ffff", `"\xd7ff;\xe000;"`: "\ud7ff\ue000", `"\xfffd;"`: "\ufffd", `"\x41;;"`: "A;", `"\x41;42;"`: "A42;",
		`"\t\n\"\\\x7e;x"`: "\t\n\"\\~x", `"n\nt\tx\x78;"`: "n\nt\txx",
		"\"\x00\x01\x7f\"": "\x00\x01\x7f", `"é€😀"`: "é€😀", "\"\ufffd\"": "\ufffd", "\"\ufeff\U0010ffff\"": "\ufeff\U0010ffff", `"(a) ; 'b #| c"`: "(a) ; 'b #| c",
	} {
		checkTokens(t, text, str(want))
		checkTokens(t, "a"+text+"b"+text, symbol("a"), str(want), symbol("b"), str(want))
	}
	checkTokens(t, `"a""b"`, str("a"), str("b"))
	checkPlaces(t, `"a\"""b"c"\\"1`, 0, 5, 8, 9, 13)
}

func TestP6StringsThatAreNone(t *testing.T) {
	for _, text := range []string{
		`"`, `"a`, `"a\"`, `"\`, `"\\\"`, `"a\x41;`, `"a ; b`, "\"a\n(b)",
	} {
		checkBad(t, text)
	}
	for _, text := range []string{
		`"\q"`, `"\N"`, `"\r"`, `"\a"`, `"\0"`, `"\'"`, `"\ "`, `"\("`, "\"\\\n\"", `"\;"`, `"\é"`, "\"\\\xff\"", `"a\qb\"c"`,
		`"\x"`, `"\x;"`, `"\x41"`, `"\x 41;"`, `"\x41 ;"`, `"\x4"1;"`, `"\xg;"`, `"\X41;"`, `"\xAB;"`, `"\x4F;"`, `"\x-1;"`, `"\x+1;"`, `"\x0x1;"`, `"\x4\n1;"`, `"\x0000041;"`, `"\x0000000;"`, `"\x110000;"`, `"\xffffff;"`, `"\xd800;"`, `"\xdfff;"`, `"\x00dc00;"`, `"\xd83d;\xde00;"`, `"\xé;"`, `"\x４1;"`,
		"\"\xff\"", "\"\x80\"", "\"a\xc3\"", "\"\xc3\\xa9;\"", "\"\xc3\\n\"", "\"\xc0\xaf\"", "\"\xe0\x80\xaf\"", "\"\xf0\x80\x80\xaf\"", "\"\xed\xa0\x80\"", "\"\xed\xa0\xbd\xed\xb8\x80\"", "\"\xf4\x90\x80\x80\"", "\"\xe2\x82\"", "\"\xf0\x9f\x98\"", "\"\xc3\xa9\xa9\"",
	} {
		checkBad(t, text)
	}
	checkFault(t, `a "b" "c`, 6, impl.ReadBadToken)
	checkFault(t, `a "b" "c\z" "d`, 6, impl.ReadBadToken)
}

func TestP6Labels(t *testing.T) {
	for _, n := range []string{"0", "1", "9", "10", "42", "99", "100", "101", "909", "999"} {
		checkTokens(t, "#"+n+"=", mark(n))
		checkTokens(t, "#"+n+"#", back(n))
		checkTokens(t, "#"+n+"=#"+n+"#", mark(n), back(n))
		checkTokens(t, "#"+n+"##"+n+"=", back(n), mark(n))
		checkTokens(t, "#"+n+"=abc", mark(n), symbol("abc"))
		checkTokens(t, "#"+n+"#12", back(n), number("12"))
		checkTokens(t, "#"+n+"==", mark(n), symbol("="))
		checkTokens(t, "#"+n+"=(", mark(n), open)
		checkTokens(t, "#"+n+"=,@#"+n+"#.", mark(n), quote("unquote-splicing"), back(n), dot)
		for _, behind := range []string{"", " ", "(", ")", "\"", "'", ";", "a", "|", "\\", ".", "/2", "-", "é", "\xff", "\xc3=", " =", "a=", ":#"} {
			checkBad(t, "#"+n+behind)
		}
	}
	for _, n := range []string{"00", "01", "000", "001", "010", "099", "0000", "0001", "1000", "9999", "1234", "12345", "10000000000000000000000", "1١", "１", "-1", "+1", "1_"} {
		checkBad(t, "#"+n+"=")
		checkBad(t, "#"+n+"#")
	}
	checkBad(t, "#=")
	checkBad(t, "#0x=")
	checkFault(t, "#1=#", 3, impl.ReadBadToken)
	checkFault(t, "#1##", 3, impl.ReadBadToken)
	checkPlaces(t, "#1=#1##20=x #20#", 0, 3, 6, 10, 12)
}

func TestP6Words(t *testing.T) {
	checkTokens(t, ". .. ... .... .a a.", dot, symbol(".."), symbol("..."), symbol("...."), symbol(".a"), symbol("a."))
	checkTokens(t, "+ - ++ -- +- * / = < -> ->x", symbol("+"), symbol("-"), symbol("++"), symbol("--"), symbol("+-"), symbol("*"), symbol("/"), symbol("="), symbol("<"), symbol("->"), symbol("->x"))
	checkTokens(t, ".5 1. -.5 +5. 007 -0 6/4 +6/3", number("1/2"), number("1"), number("-1/2"), number("5"), number("7"), number("0"), number("3/2"), number("2"))
	checkTokens(t, "-/2 +. -. /2 +1a -1x .5a +1/0 -1/2/3 .1.2 +1.5/2 1.25", symbol("-/2"), symbol("+."), symbol("-."), symbol("/2"), symbol("+1a"), symbol("-1x"), symbol(".5a"), symbol("+1/0"), symbol("-1/2/3"), symbol(".1.2"), symbol("+1.5/2"), number("5/4"))
	for _, text := range []string{"1a", "1+", "1-", "1/", "1/0", "0/0", "1//2", "1/2/3", "1.2.3", "1..", "1./2", "1e5", "0x1f", "1_000", "1,2", "1`", "1@", "1#", "1é", "9z", "1\xff", nines(61), "1" + noughts(240)} {
		checkBad(t, text)
	}
	checkTokens(t, "-"+nines(61), symbol("-"+nines(61))) // too big for a number
	checkTokens(t, "a#b #t a,b a`b a@ @ {a} [b] a:b !$%&*^_~?<=>", symbol("a#b"), boolean("t"), symbol("a,b"), symbol("a`b"), symbol("a@"), symbol("@"), symbol("{a}"), symbol("[b]"), symbol("a:b"), symbol("!$%&*^_~?<=>"))
	checkTokens(t, "é λx €1 😀 \ufffd a\ufffd \u0080 \u00ad ７ ٣", symbol("é"), symbol("λx"), symbol("€1"), symbol("😀"), symbol("\ufffd"), symbol("a\ufffd"), symbol("\u0080"), symbol("\u00ad"), symbol("７"), symbol("٣"))
	checkTokens(t, "Aa T F nil NIL", symbol("Aa"), symbol("T"), symbol("F"), symbol("nil"), symbol("NIL"))
}

func TestP6WordsThatAreNone(t *testing.T) {
	for b := range 256 {
		switch c := string([]byte{byte(b)}); {
		case strings.Contains(" \t\n\r()\";'", c):
		case b < 33 || b == 127 || b > 127 || b == '\\' || b == '|':
			checkBad(t, "a"+c)
			checkBad(t, "a"+c+"b")
			checkBad(t, c)
		default:
			checkTokens(t, "a"+c, symbol("a"+c))
		}
	}
	for _, text := range []string{`\`, `a\`, `\a`, `a\ b`, "|a b|", "a|b", "|", "||", "\xc0\x80", "\xc0\xafa", "\xe0\x80\xaf", "\xf0\x80\x80\xaf", "\xed\xa0\x80", "a\xed\xbf\xbfb", "\xf4\x90\x80\x80", "\xe2\x82", "é\xa9", "\xc3é", "\xf8\x88\x80\x80\x80", "1\x00", "+\x7f"} {
		checkBad(t, text)
	}
}

func TestP6Booleans(t *testing.T) {
	checkTokens(t, "#t #true #f #false", boolean("t"), boolean("t"), boolean("f"), boolean("f"))
	checkPlaces(t, "#t #true(#f)#false", 0, 3, 8, 9, 11, 12)
	for _, text := range []string{"#T", "#F", "#True", "#FALSE", "#tr", "#tru", "#truex", "#fals", "#falsey", "#tt", "#ft", "#t#f", "#f=", "#t1", "#t\xff"} {
		checkBad(t, text)
	}
}

func TestP6Radixes(t *testing.T) {
	letters := map[string]int{"b": 2, "o": 8, "d": 10, "x": 16}
	digits := []string{
		"", "0", "1", "-1", "+1", "101", "-101/10", "2", "7", "8", "17", "9", "a", "f", "ff", "-ff/f", "g", "F", "A", "1/0", "1/", "/1", "/", "+", "-", ".", ".5", "1.", "1.5", "-1.25", "1.5/2", "--1", "1/2/3", "00", "00010", "#1", "x1", "1,", "1`", "é", "\xff", "1\xff",
		"b", "d", "e", "bad", "dead/beef", nines(60), nines(61), strings.Repeat("1", 199), strings.Repeat("1", 200), noughts(239) + "1", noughts(240) + "1", noughts(239) + "1/1", strings.Repeat("f", 49), strings.Repeat("f", 50), "1/" + nines(60),
	}
	for letter, radix := range letters {
		for _, text := range digits {
			n, ok := impl.NumParse(text, radix)
			if ok {
				checkTokens(t, "#"+letter+text, number(impl.NumPrint(n, 10)))
			} else {
				checkBad(t, "#"+letter+text)
			}
		}
		checkBad(t, "#"+strings.ToUpper(letter)+"1")
	}
	checkTokens(t, "#b101 #o17 #d1.5 #xff #x-a/c", number("5"), number("15"), number("3/2"), number("255"), number("-5/6"))
	for _, text := range []string{"#e1", "#i1", "#h1", "#a1", "#c1", "#_1", "#-1"} {
		checkBad(t, text)
	}
}

// TestP6NumbersHaveNoBoundOfBytes has numbers that are longer than a symbol may be.
func TestP6NumbersHaveNoBoundOfBytes(t *testing.T) {
	checkTokens(t, noughts(239)+"1", number("1"))
	checkTokens(t, "-1."+noughts(237), number("-1"))
	checkBad(t, noughts(240)+"1")
	checkBad(t, "-"+noughts(240))
	checkTokens(t, "-"+noughts(239), number("0"))
	checkTokens(t, "#b"+noughts(239)+"1", number("1"))
	checkBad(t, "#b"+noughts(240)+"1")
	checkTokens(t, nines(60)+"/1"+noughts(59), number(nines(60)+"/1"+noughts(59)))
}

func TestP6LongestAtoms(t *testing.T) {
	most := strings.Repeat("a", 200)
	checkTokens(t, most, symbol(most))
	checkBad(t, most+"a")
	wide := strings.Repeat("é", 100)
	checkTokens(t, wide, symbol(wide))
	checkBad(t, wide+"a")
	checkBad(t, wide[:198]+"a€")
	checkTokens(t, `"`+most+`"`, str(most))
	checkBad(t, `"`+most+`a"`)
	checkTokens(t, `"`+wide+`"`, str(wide))
	checkBad(t, `"a`+wide+`"`)
	checkTokens(t, `"`+strings.Repeat(`\x41;`, 200)+`"`, str(strings.Repeat("A", 200)))
	checkBad(t, `"`+strings.Repeat(`\x41;`, 201)+`"`)
	checkTokens(t, `"`+strings.Repeat(`\n`, 200)+`"`, str(strings.Repeat("\n", 200)))
	checkTokens(t, `"`+strings.Repeat(`\x1f600;`, 50)+`"`, str(strings.Repeat("😀", 50)))
	checkBad(t, `"`+strings.Repeat(`\x1f600;`, 50)+`\n"`)
}

func TestP6MostTokens(t *testing.T) {
	signs := func(n int) string { return strings.Repeat("(", n) }
	if n := len(read(t, signs(300))); n != 300 {
		t.Errorf("%d tokens", n)
	}
	if n := len(read(t, strings.Repeat("ab ", 300)+" ; c\n#|d|#\n")); n != 300 {
		t.Errorf("%d tokens", n)
	}
	checkFault(t, signs(301), 300, impl.ReadTooLong)
	checkFault(t, signs(1000), 300, impl.ReadTooLong)
	checkFault(t, strings.Repeat("ab ", 300)+" ;\n #||# x", 909, impl.ReadTooLong)
	checkFault(t, strings.Repeat("1 ", 301)+" 1a", 600, impl.ReadTooLong)
	checkFault(t, strings.Repeat("'", 301)+"#|", 300, impl.ReadTooLong)
	checkFault(t, strings.Repeat("1 ", 299)+"1a", 598, impl.ReadBadToken)
	for _, bad := range []string{"1a", "\"", "#", "|#", "\xff", "#\\", "#00=", "\"\\q\""} {
		checkFault(t, strings.Repeat("1 ", 300)+"\n"+bad, 601, impl.ReadBadToken) // its own fault comes first
	}
	checkFault(t, strings.Repeat("1 ", 300)+"#|", 599, impl.ReadBadToken)
	checkFault(t, "1a"+signs(400), 0, impl.ReadBadToken)
}

func TestP6LongestText(t *testing.T) {
	for _, text := range []string{"", "a", "(a . b)", "; c", "#|d|#"} {
		most := text + strings.Repeat("\n", 4000-len(text))
		if got, want := toldAll(read(t, most)), toldAll(read(t, text)); !slices.Equal(got, want) {
			t.Errorf("%q: %q, not %q", text, got, want)
		}
		checkFault(t, most+" ", 0, impl.ReadTooLong)
	}
	for _, bad := range []string{"1a", "a \"", "  #|", strings.Repeat("(", 301), "a \xff"} {
		checkFault(t, bad+strings.Repeat(" ", 4001-len(bad)), 0, impl.ReadTooLong)
		checkFault(t, strings.Repeat(" ", 4001-len(bad))+bad, 0, impl.ReadTooLong)
	}
	checkFault(t, strings.Repeat(" ", 3998)+"1a", 3998, impl.ReadBadToken)
	checkFault(t, "a"+strings.Repeat(" ", 3997)+"#|", 1, impl.ReadBadToken)
	checkFault(t, strings.Repeat("(", 1_000_000), 0, impl.ReadTooLong)
	checkFault(t, strings.Repeat("#|", 2000), 0, impl.ReadBadToken)
	checkTokens(t, strings.Repeat("#|", 1000)+strings.Repeat("|#", 1000))
}

func TestP6FirstFault(t *testing.T) {
	checkFault(t, "a 1b \"c", 2, impl.ReadBadToken)
	checkFault(t, "a #q #|", 2, impl.ReadBadToken)
	checkFault(t, "\"\\q\" 1b", 0, impl.ReadBadToken)
	checkFault(t, "(a |b| #00= \xff)", 3, impl.ReadBadToken)
}

func TestP6NothingIsKept(t *testing.T) {
	const text = "(a \"b\\n\" #\\c #1=d)"
	first := read(t, text)
	want := slices.Clone(first)
	for i := range first[:cap(first)] {
		first[:cap(first)][i] = impl.ReadToken{Kind: -1}
	}
	if again := read(t, text); !slices.Equal(again, want) {
		t.Errorf("%v, then %v", want, again)
	}
}

// pieces are what texts are made of by chance.
var pieces = []string{
	" ", "\n", "\t", "\r", "; c\n", ";", "#|d|#", "#|#|e|#|#", "#|", "|#", "|", "(", ")", "'", "`", ",", ",@", "@", "#(", "#u8(", "#;", "#", "u8(",
	"\"", "\"s\"", "\"\\n\"", "\"\\x41;\"", "\\", "\\\"", "\\x", "x", ";", "n", "#\\", "#\\x", "#\\x41", "#\\space", "space", "#t", "#true", "#f", "#false", "#b1", "#o", "#d", "#x", "1f", "#1=", "#20#", "#003=", "#1",
	"=", "0", "1", "23", ".", "..", ".5", "+", "-", "/", "6/4", "a", "bc", "def", "é", "€", "😀", "\ufffd", "\xff", "\xc3", "\xa9", "\xed\xa0\x80", "\x00", "\x7f", "d800;", "110000", "41;",
}

// chance makes a text; one in a tame way seldom has a fault.
func (d *dice) chance(tame bool) string {
	text := ""
	for range d.upTo(30) {
		if piece := pieces[d.upTo(len(pieces)-1)]; !tame || !bad(piece) {
			text += piece
		}
		if tame {
			text += []string{" ", "\n", ""}[d.upTo(2)]
		}
	}
	return text
}

func bad(text string) bool {
	_, fault := impl.ReadTokens(text)
	return fault.Code != 0
}

// TestP6AnotherWay holds what is told of many texts against another way to cut them.
func TestP6AnotherWay(t *testing.T) {
	d := &dice{state: 11}
	whole, faults := 0, 0
	for i := range 40_000 {
		if t.Failed() {
			return // one text is enough to tell
		}
		text := d.chance(i%2 == 0)
		want, places, fault := cutAll(text)
		if fault.Code != 0 {
			faults++
			checkFault(t, text, fault.At, fault.Code)
			continue
		}
		whole++
		checkTokens(t, text, want...)
		checkPlaces(t, text, places...)
	}
	if whole < 10_000 || faults < 10_000 {
		t.Errorf("%d texts without a fault, %d with one", whole, faults)
	}
}

// TestP6EveryShortText has every text of up to four bytes of those that mean something.
func TestP6EveryShortText(t *testing.T) {
	const bytes = " \n;#|()\"'`,@\\x.0au8=n-\xc3\xa9"
	texts := []string{""}
	for range 4 {
		next := []string{}
		for _, text := range texts {
			for i := range len(bytes) {
				next = append(next, text+bytes[i:i+1])
			}
		}
		for _, text := range next {
			want, places, fault := cutAll(text)
			tokens, got := impl.ReadTokens(text)
			same := got == fault && len(tokens) == len(want)
			for i := 0; same && i < len(tokens); i++ {
				same = told(tokens[i]) == want[i] && tokens[i].At == places[i]
			}
			if !same {
				t.Fatalf("%q: %v %+v, not %q %v %+v", text, tokens, got, want, places, fault)
			}
		}
		texts = next
	}
}

// TestP6EachWhereItBegins cuts texts at the places of their tokens: each part must be just that token.
func TestP6EachWhereItBegins(t *testing.T) {
	d := &dice{state: 12}
	for range 4000 {
		text := d.chance(true)
		tokens, _ := impl.ReadTokens(text)
		for i, x := range tokens {
			end := len(text)
			if i+1 < len(tokens) {
				end = tokens[i+1].At
			}
			if x.At >= end {
				t.Fatalf("%q: a token at %d, the next at %d", text, x.At, end)
			}
			alone := read(t, text[x.At:end])
			x.At = 0
			if len(alone) != 1 || alone[0] != x {
				t.Errorf("%q from %d to %d: %v, not %v", text, x.At, end, alone, x)
			}
		}
	}
}

// TestP6GapsChangePlacesAlone lays comments and blanks ahead of texts and behind them.
func TestP6GapsChangePlacesAlone(t *testing.T) {
	gaps := []string{"", " ", "\n\r\t ", "; c \" #| (\n", ";\n;\n", "#|a|#", "#|#|\"|#(|#", " #||# \n;|#\n\t", ";\xff\n", "#|\xe2|#"}
	d := &dice{state: 13}
	for i := range 4000 {
		text := d.chance(true)
		if i%50 == 0 {
			text = strings.Repeat("ab ", 300)
		}
		tokens, fault := impl.ReadTokens(text)
		if fault.Code != 0 {
			continue
		}
		ahead, behind := gaps[d.upTo(len(gaps)-1)], gaps[d.upTo(len(gaps)-1)]
		got := read(t, ahead+text+"\n"+behind)
		if len(got) != len(tokens) {
			t.Errorf("%q ahead, %q behind %q: %d tokens, not %d", ahead, behind, text, len(got), len(tokens))
			continue
		}
		for k, x := range tokens {
			x.At += len(ahead)
			if got[k] != x {
				t.Errorf("%q ahead, %q behind %q: %v, not %v", ahead, behind, text, got[k], x)
			}
		}
	}
}

// TestP6PlacesAreOfBytes has characters of several bytes ahead.
func TestP6PlacesAreOfBytes(t *testing.T) {
	for size, c := range map[int]string{1: "a", 2: "é", 3: "€", 4: "😀"} {
		checkPlaces(t, c+" "+c+"("+c, 0, size+1, 2*size+1, 2*size+2)
		checkPlaces(t, "\""+c+"\"#\\"+c+" ;"+c+"\n#|"+c+"|#z", 0, size+2, 4*size+11)
		checkFault(t, c+" 1"+strconv.Itoa(size)+c, size+1, impl.ReadBadToken)
	}
}
