package tests

import (
	"slices"
	"strconv"
	"strings"
	"testing"

	"loop.example/sistab/impl"
)

func TestP7EachRow(t *testing.T) {
	checkDatum(t, "6/4", number("3/2"))
	checkDatum(t, "a", symbol("a"))
	checkDatum(t, `"a\n"`, str("a\n"))
	checkDatum(t, `#\(`, character("("))
	checkDatum(t, "#false", boolean("f"))
	checkDatum(t, "(a)", pair(1, 2), symbol("a"), null)
	checkDatum(t, "(a . b)", pair(1, 2), symbol("a"), symbol("b"))
	checkDatum(t, "'a", pair(1, 2), symbol("quote"), pair(3, 4), symbol("a"), null)
	checkDatum(t, "#(a b)", row(1, 2), symbol("a"), symbol("b"))
	checkDatum(t, "#u8(1 2)", raws("\x01\x02"))
	checkDatum(t, "#0=a", symbol("a"))
	checkDatum(t, "#0=(a . #0#)", pair(1, 0), symbol("a"))
	checkDatum(t, "#;a b", symbol("b"))
}

func TestP7EachCode(t *testing.T) {
	checkReadFault(t, "(a «1b)", impl.ReadBadToken)
	checkReadFault(t, "«)", impl.ReadUneven)
	checkReadFault(t, "('«)", impl.ReadUneven)
	checkReadFault(t, "a '", impl.ReadUneven)
	checkReadFault(t, "a (b", impl.ReadUneven)
	checkReadFault(t, "a «. b", impl.ReadBadDot)
	checkReadFault(t, "(a . «)", impl.ReadBadDot)
	checkReadFault(t, "(a . b «c)", impl.ReadBadDot)
	checkReadFault(t, "(#0=a «#0=b)", impl.ReadBadLabel)
	checkReadFault(t, "(a «#0=#0#)", impl.ReadBadLabel)
	checkReadFault(t, "(a «#0#)", impl.ReadBadLabel)
	checkReadFault(t, "#u8(1 «a)", impl.ReadBadByte)
	checkReadFault(t, "#("+names("a", 41)+"«)", impl.ReadTooMany)
	checkReadFault(t, names("a", 13), impl.ReadTooMany)
	checkReadFault(t, "«"+strings.Repeat("a", 4001), impl.ReadTooLong)
	checkReadFault(t, strings.Repeat("a ", 300)+"«a", impl.ReadTooLong)
}

func TestP7NothingToRead(t *testing.T) {
	for _, text := range []string{"", " ", " \t\r\n", ";", "; (a", "#| (b |#", ";\n#|#|'|#|# \n;c"} {
		checkData(t, text, nil)
	}
}

func TestP7Atoms(t *testing.T) {
	checkData(t, `a 1 "a" #\a #t #f "" -.5`, []int{0, 1, 2, 3, 4, 5, 6, 7},
		symbol("a"), number("1"), str("a"), character("a"), boolean("t"), boolean("f"), str(""), number("-1/2"))
	checkData(t, `t "t" #\t #t`, []int{0, 1, 2, 3}, symbol("t"), str("t"), character("t"), boolean("t"))
	checkData(t, `1 #b1 1.0 2/2 +01 "1"`, []int{0, 0, 0, 0, 0, 1}, number("1"), str("1"))
	checkData(t, `"" #u8() () #()`, []int{0, 1, 2, 3}, str(""), raws(""), null, row())
	checkDatum(t, `"`+strings.Repeat("é", 100)+`"`, str(strings.Repeat("é", 100)))
}

func TestP7Lists(t *testing.T) {
	checkDatum(t, "()", null)
	checkDatum(t, "( #||# )", null)
	checkDatum(t, "(())", pair(1, 1), null)
	checkDatum(t, "(a b c)", pair(1, 2), symbol("a"), pair(3, 4), symbol("b"), pair(5, 6), symbol("c"), null)
	checkDatum(t, "((a) b)", pair(1, 4), pair(2, 3), symbol("a"), null, pair(5, 3), symbol("b"))
	checkDatum(t, "(a b . c)", pair(1, 2), symbol("a"), pair(3, 4), symbol("b"), symbol("c"))
	checkReadsAs(t, "(a . (b . (c . ())))", "(a b c)")
	checkReadsAs(t, "(a b . (c))", "(a b c)")
	checkReadsAs(t, "((a . b) . (c . d))", "((a . b) c . d)")
	checkReadsAs(t, "(a.b)", "(a.b . ())")
	checkReadsAs(t, "(quote a)", "'a")
	checkReadsAs(t, "(a . 'b)", "(a quote b)")
	checkReadsAs(t, "(a . #(b))", "(a . #( b ))")
	checkDatum(t, "(a . #u8(1))", pair(1, 2), symbol("a"), raws("\x01"))
}

func TestP7Dots(t *testing.T) {
	for _, text := range []string{
		"«.", "«. a", "a «.", "a «. b", "(«.)", "(«. a)", "(«. .)", "(a . «)", "(a . «.)", "(a . «. b)", "(a . «. b", "(a . b «.)", "(a . b «. c)",
		"(a . b «c)", "(a . b «c d)", "(a . b «(c))", "(a . b «'c)", "(a . b «#(c))", "(a . b «#u8(1))", "(a . b «#0=c)", "(a . b «#0#)", "(#0=a . b «#0#)", "(#0=a . b «#0=c)", "(a . b «\"\")",
		"((a b) . «. c)", "((«. a))", "'«.", "(a '«. b)", "#(«.)", "#(a «. b)", "#(a b «.)", "#0=«.", "(a #0=«. b)", "(a . '«.)", "(a . ( «. ))", "((a . «) . b)",
	} {
		checkReadFault(t, text, impl.ReadBadDot)
	}
	for _, text := range []string{"(a .", "(a . b", "(a . (b", "(a . '", "(a . '«)", "(a . b #;", "(a . b #;«)", "(a . #;", "(a . #;«)"} {
		checkReadFault(t, text, impl.ReadUneven)
	}
}

func TestP7Uneven(t *testing.T) {
	for _, text := range []string{
		"«)", "a «)", "()«)", "(a)«) b", "«)(", "'«)", "'a«)", "('«)", "(a '«)", "#('«)", "#0=«)", "(#0=«)", "#;«)", "(#;«)", "(a #;«)", "#(a #;«)", "#;#;«)", "(#;#; a«)", "#;'«)", "#u8()«)", "(a . b)«)",
		"(", "((", "(a", "(a ()", "#(", "#(a", "#u8(", "#u8(1", "'", "a '", "('", "'(", "''", "`", ",", ",@", "#;", "a #;", "#;#;", "#;#;a", "#;(", "#;(a", "(#;a", "#0=", "a #0=", "#0=(", "#0=#1=", "#0='", "(a . ", "(a #0=(b . #0#)", "(a ; )\n", "(a #|)|#",
	} {
		checkReadFault(t, text, impl.ReadUneven)
	}
	checkDatum(t, "(])", pair(1, 2), symbol("]"), null) // no other bracket ends a list
	checkReadFault(t, "[«)", impl.ReadUneven)
	checkReadFault(t, "(}]", impl.ReadUneven)
}

func TestP7Quotes(t *testing.T) {
	for sign, name := range map[string]string{"'": "quote", "`": "quasiquote", ",": "unquote", ",@": "unquote-splicing"} {
		checkDatum(t, sign+" a", pair(1, 2), symbol(name), pair(3, 4), symbol("a"), null)
		checkReadsAs(t, sign+"(a . b)", "("+name+" (a . b))")
		checkReadsAs(t, "("+sign+"a . "+sign+"b)", "(("+name+" a) . ("+name+" b))")
		checkReadsAs(t, "#("+sign+"#u8(1))", "#(("+name+" #u8(1)))")
		checkReadsAs(t, sign+sign+"a", "("+name+" ("+name+" a))")
	}
	checkReadsAs(t, "`(a ,b ,@c)", "(quasiquote (a (unquote b) (unquote-splicing c)))")
	checkDatum(t, "'quote", pair(1, 2), symbol("quote"), pair(1, 3), null)
	checkDatum(t, "'()", pair(1, 2), symbol("quote"), pair(3, 3), null)
}

func TestP7LeftOut(t *testing.T) {
	for text, other := range map[string]string{
		"#;a b": "b", "a #;b": "a", "a #;b c": "a c", "#;a": "", "#;a ": "", "#;a #;b": "", "#; a": "", "#;\n;c\n a b": "b", "#;()a": "a",
		"(#;a b)": "(b)", "(a #;b)": "(a)", "(#;a)": "()", "(a #;b c)": "(a c)", "(#;a #;b)": "()", "#(#;a)": "#()", "#(a #;b)": "#(a)", "#(#;a b #;c)": "#(b)",
		"(a #;b . c)": "(a . c)", "(a . #;b c)": "(a . c)", "(a . b #;c)": "(a . b)", "(a #;x . #;y b #;z)": "(a . b)", "(a . #;x #;y b)": "(a . b)", "(a . b #;c #;d)": "(a . b)", "(a . b #;#;c d)": "(a . b)", "(a . b #;(c . d))": "(a . b)", "(a #;#;x y . b)": "(a . b)",
		"#;#;a b c": "c", "#;#;a b": "", "#;#;#;a b c d": "d", "#;a #;b c": "c", "#;a #;#;b c d": "d", "#;(a #;b c) d": "d", "#;(a #;b) c": "c", "#;(#;a) b": "b", "(#;#;a b)": "()", "(#;#;a b c)": "(c)",
		"#;(a . b) c": "c", "#;#(a b) c": "c", "#;#u8(1 2) c": "c", "#;'a b": "b", "#;''a b": "b", "#;#0=a b": "b", "#;\"a\" b": "b", "#;#\\a b": "b", "#;#t b": "b", "#;(a (b) #(c)) d": "d",
		"'#;a b": "'b", "'#;a #;b c": "'c", "'#;'a b": "'b", "''#;a b": "''b", "(a '#;b c . d)": "(a 'c . d)",
		"#0=#;a b": "b", "#0=#;a (b #0# . #0#)": "#0=(b #0# . #0#)", "(#0=#;a b #0#)": "(b b)", "#0=#;a #;b (c . #0#)": "#0=(c . #0#)",
		"(a #;(b #;(c #;d e) f) g)": "(a g)", "#;#| c |# a ; d\n b": "b",
	} {
		checkReadsAs(t, text, other)
	}
	for _, text := range []string{"#;", "(#;", "#;'", "a #;", "#;#;a", "(a #;", "#;(a", "'#;a", "#0=#;a", "(a . #;b", "(a . b #;", "'#;a«)", "(#;«)", "(a . b #;«)", "(a . #;«)", "#0=#;a«)", "#;«)", "#;(a #;«)"} {
		checkReadFault(t, text, impl.ReadUneven)
	}
	// a ReadClose is not right behind a ReadDot, if what is left out stands between; comments and blanks are nothing between
	for _, text := range []string{"(a . #;b «)", "(a . #;b«)", "(a . #;#;b c«)", "( 255 . #; () «) a", "(a . #;b #;c «)", "(a . #;(b . c) «)", "(a . #; ; c\n b «)", "((a . #;b «) . c)", "#;(a . #;b «) c", "'(a . #;b «)", "#0=(a . #;#0# «)", "(a . #;b", "(a . #;b #;c"} {
		checkReadFault(t, text, impl.ReadUneven)
	}
	for _, text := range []string{"(a . «)", "(a .«)", "(a . ; b\n «)", "(a . #|b|# «)", "(a #;b . «)", "(a #;b .«)", "#;(a . «) b", "(a #;(b . «) c)", "(a . #;(b . «) c)"} {
		checkReadFault(t, text, impl.ReadBadDot)
	}
	for _, text := range []string{"#;«.", "#; «. a", "(a #;«. b)", "(#;a «. b)", "(#;a «.)", "(a . b #;c «d)", "(a . b #;c «.)", "(a . b #;c «. d)", "(a . b #;«. c)", "(a . #;«. b)", "#(a #;b «. c)", "'#;a «.", "#;(«. a) b", "#;(a . «) b", "#;(a . b «c) d"} {
		checkReadFault(t, text, impl.ReadBadDot)
	}
	for _, text := range []string{"#u8(«#;1)", "#u8(1 «#;2)", "#u8(1 «#;2 3)", "#u8(«#;)", "#u8(«#;", "#;#u8(«#;1)", "#u8(1 «#;a 2)", "#;#u8(«a) b", "(#;#u8(1 «256) b)"} {
		checkReadFault(t, text, impl.ReadBadByte)
	}
}

func TestP7Labels(t *testing.T) {
	checkDatum(t, "#0=(a . #0#)", pair(1, 0), symbol("a"))
	checkDatum(t, "#0=(#0# . a)", pair(0, 1), symbol("a"))
	checkDatum(t, "#0=(#0# . #0#)", pair(0, 0))
	checkDatum(t, "#0=#(#0#)", row(0))
	checkDatum(t, "#0=#(a #0# b)", row(1, 0, 2), symbol("a"), symbol("b"))
	checkDatum(t, "#0='#0#", pair(1, 2), symbol("quote"), pair(0, 3), null)
	checkDatum(t, "#999=(a . #999#)", pair(1, 0), symbol("a"))
	checkDatum(t, "#7=(a . #3=(b #7# . #3#))", pair(1, 2), symbol("a"), pair(3, 4), symbol("b"), pair(0, 2))
	checkDatum(t, "(#0=a #0#)", pair(1, 2), symbol("a"), pair(1, 3), null)
	checkDatum(t, "(a #1=(b . #2=(c #1# . #2#)) #1# . #2#)",
		pair(1, 2), symbol("a"), pair(3, 7), pair(4, 5), symbol("b"), pair(6, 7), symbol("c"), pair(3, 5))
}

func TestP7LabelsAsData(t *testing.T) {
	for text, other := range map[string]string{
		"#0=a": "a", "#0=#1=a": "a", "(#0=a #0# #0#)": "(a a a)", "(#0=() . #0#)": "(())", "(#0=(a) #0#)": "((a) (a))", "(#0=#u8(1) . #0#)": "(#u8(1) . #u8(1))", "(#0='a #0#)": "('a 'a)", "'#0=(a . #0#)": "(quote #1=(a . #1#))",
		"(a . #0=(b . #0#))": "(a . #0=(b b . #0#))", "(#0=a . #0#)": "(a . a)", "#(#0=a #0#)": "#(a a)",
		// labels of labels
		"#0=#1=(a #0# . #1#)": "#0=(a #0# . #0#)", "#0=#1=#2=(#0# #1# . #2#)": "#0=(#0# #0# . #0#)", "(#0=a #1=#0# #1#)": "(a a a)", "(#0=a #1=#0# #2=#1# #2#)": "(a a a a)", "(#0=#1=a #1# #0#)": "(a a a)", "(#0=(a . #0#) #1=#0# . #1#)": "(#0=(a . #0#) #0# . #0#)", "#0=(#1=(a #0#) #2=#1# . #2#)": "#0=(#1=(a #0#) #1# . #1#)", "(#0=(a) #1=(#0# . #2=#0#) #2#)": "((a) ((a) a) (a))",
		// within one datum, in other data
		"(#0=a) (#0=b #0#)": "(a) (b b)", "#0=a #0=b": "a b", "#0=(a . #0#) #0=(b . #0#)": "#1=(a . #1#) #1=(b . #1#)", "(#0=a #0#) (#0=(b . #0#))": "(a a) (#1=(b . #1#))",
	} {
		checkReadsAs(t, text, other)
	}
}

func TestP7BadLabels(t *testing.T) {
	for _, text := range []string{
		"«#0#", "(a «#0#)", "(«#0# #0=a)", "(#0=a «#1#)", "(#1=a «#11#)", "(#11=a «#1#)", "'«#0#", "#(«#0#)", "(a . «#0#)", "#1=«#0#", "(a #1=«#0#)", "#;«#0#", "#;(a «#0#) b",
		"«#0=#0#", "(a «#0=#0#)", "(a . «#0=#0#)", "'«#0=#0#", "#(«#0=#0#)", "#0=(a «#1=#0#)", "#0=(a . «#1=#0#)", "#0='«#1=#0#", "#0=#(«#1=#0#)", "#0=(#1=(a «#2=#0#))", "#0=(#1=(a «#2=#1#))", "#0=#1=(a «#2=#0#)", "#0=#1=(a «#2=#1#)",
		"«#0=#;a #0#", "«#0= #;a #;(b c) #0#", "#0=(a «#1=#;b #0#)", "#0=#;«#1=#0# a", "#0=#;(«#1=#0#) a", "#;«#0=#0# a",
		"(#0=a «#0=b)", "(#0=a #1=b «#0=c)", "#0=«#0=a", "#0=(a «#0=#0#)", "#0=(a «#0=b)", "#0=(«#0=a)", "#0='«#0=a", "(#0=a . «#0=b)", "#(#0=a «#0=a)", "#0=(a #0# «#0=b)", "(#0=a (#1=b) ((«#1=c)))",
		"(#;#0=a «#0=b)", "(#0=a #;«#0=b)", "(#0=a . b #;«#0=c)", "#0=#;«#0=a b", "(#;(#0=a) «#0=b)", "#;(#0=a «#0=b) c", "(#;(#0=a «#0=b) c)", "'#;#0=a «#0=b",
	} {
		checkReadFault(t, text, impl.ReadBadLabel)
	}
	// a label of labels, none of which is read yet: the mark just ahead of the ReadBack has the fault
	checkReadFault(t, "#0=«#1=#0#", impl.ReadBadLabel)
	checkReadFault(t, "#0=«#1=#1#", impl.ReadBadLabel)
}

// TestP7LabelsThatAreLeftOut has labels and ReadBacks, one of the two or both in what is left out.
func TestP7LabelsThatAreLeftOut(t *testing.T) {
	for text, other := range map[string]string{
		"(#;#0=a #0#)": "(a)", "(#;(b #0=(c . #0#)) #0#)": "(#0=(c . #0#))", "(#0=a #;#0# b)": "(a b)", "#0=(a #;#0# . b)": "(a . b)", "#0=(a #;(b #0#) . #0#)": "#0=(a . #0#)", "(a . #0=b #;#0#)": "(a . b)", "(a . #;#0=b #0#)": "(a . b)", "'#;#0=a #0#": "'a", "#(#;#0=a #0#)": "#(a)",
		"#0=#;(b #0#) a": "a", "#0=#;#0# a": "a", "(#0=#;#1=(b #0#) a #1#)": "(a (b a))", "#0=#;#1=(b . #0#) (a #1#)": "#0=(a (b . #0#))", "(#0=#;#1=b #1#)": "(b)", "#0=(a #;#1=(b . #0#) #1#)": "#0=(a (b . #0#))", "(#;#;#0=a b #0#)": "(a)", "(#;#;#0=a #0# b)": "(b)",
		"#;(#0=a #0#) b": "b", "#;#0=(a . #0#) b": "b", "a #;(#0=b #0#)": "a", "#;#0=a #;#0=b c": "c", "#;#0=a #0=b": "b", "#0=a #;#0=b": "a", "#0=a #;#0=b #0=c": "a c", "#;#0=a (#0=b #0#)": "(b b)",
	} {
		checkReadsAs(t, text, other)
	}
	for _, text := range []string{
		"#0=a «#0#", "#0=(a . #0#) «#0#", "(#0=a) («#0#)", "(#0=a) b («#0#)", "(#0=a) (#1=b «#0#)", "(#;#0=a) «#0#",
		"#;#0=a «#0#", "#;#0=a («#0#)", "#;(#0=a) («#0#)", "#;#0=a '«#0#", "a #;#0=b «#0#", "#;#0=a #;b («#0#)", "#;#;#0=a b («#0#)",
		"#0=a #;«#0#", "#0=a #;(«#0#) b", "(#0=a #0#) #;«#0#", "#;#0=a #;«#0# b", "#;#;#0=a «#0# b",
		"(#;«#0# #0=a)", "(#;(a «#0#) #0=b)",
	} {
		checkReadFault(t, text, impl.ReadBadLabel)
	}
}

func TestP7Bytes(t *testing.T) {
	checkDatum(t, "#u8()", raws(""))
	checkDatum(t, "#u8( ; c\n #||# )", raws(""))
	checkDatum(t, "#u8(0)", raws("\x00"))
	checkDatum(t, "#u8(255)", raws("\xff"))
	checkDatum(t, "#u8(0 1 127 128 254 255)", raws("\x00\x01\x7f\x80\xfe\xff"))
	checkDatum(t, "#u8(000 007 0255 -0 +9 -00)", raws("\x00\x07\xff\x00\x09\x00"))
	checkDatum(t, "#u8(#xff #b101 #o17 #d10 510/2 1.0 .0 65.)", raws("\xff\x05\x0f\x0a\xff\x01\x00A"))
	checkDatum(t, "(#u8(1) . #u8(1))", pair(1, 1), raws("\x01"))
	for b := range 256 {
		checkDatum(t, "#u8("+strconv.Itoa(b)+")", raws(string([]byte{byte(b)})))
	}
	for _, bad := range []string{
		"256", "257", "1000", "-1", "-255", "1/2", "-1/2", "255.5", "#x100", "#x-1", "4294967296", "18446744073709551616", "18446744073709551617", nines(60), "a", "+", "-", "\"1\"", "\"\"", "#\\1", "#t", "#f",
		"(", "()", "(1)", "#(1)", "#u8(1)", ".", ". 1", "'1", "`1", ",1", ",@1", "#0=1", "#0#", "#;1", "#;1 2",
	} {
		checkReadFault(t, "#u8(«"+bad+")", impl.ReadBadByte)
		checkReadFault(t, "#u8(1 2 «"+bad+" 3)", impl.ReadBadByte)
		checkReadFault(t, "(a #;#u8(«"+bad+") b)", impl.ReadBadByte)
		checkReadFault(t, "#u8(«"+bad, impl.ReadBadByte)
	}
	checkReadFault(t, "#0=#u8(«#0#)", impl.ReadBadByte)
	checkReadFault(t, "(#0=1 #u8(«#0#))", impl.ReadBadByte)
	checkReadFault(t, "#0=#u8(1 «#0=2)", impl.ReadBadByte)
	for _, text := range []string{"#u8(", "#u8(1", "(#u8(1 2", "#;#u8(3", "'#u8("} {
		checkReadFault(t, text, impl.ReadUneven)
	}
}

func TestP7MostBytes(t *testing.T) {
	const most = impl.ReadMaxAtom
	ones := strings.Repeat("1 ", most)
	checkDatum(t, "#u8("+ones+")", raws(strings.Repeat("\x01", most)))
	checkReadsAs(t, "#;#u8("+ones+") a", "a")
	checkReadFault(t, "#u8("+ones+"«1)", impl.ReadBadByte)
	checkReadFault(t, "#u8("+ones+"«1 1)", impl.ReadBadByte)
	checkReadFault(t, "#u8("+ones+"«1", impl.ReadBadByte)
	checkReadFault(t, "#u8("+ones+"«a)", impl.ReadBadByte)
	checkReadFault(t, "(#;#u8("+ones+"«1) a)", impl.ReadBadByte)
	checkReadFault(t, "#u8("+ones, impl.ReadUneven)
}

func TestP7MostKids(t *testing.T) {
	const most = impl.ReadMaxKids
	full := names("a", most)
	places := make([]int, most)
	nodes := []string{row()}
	for i := range most {
		places[i] = i + 1
		nodes = append(nodes, symbol("a"+strconv.Itoa(i)))
	}
	nodes[0] = row(places...)
	checkDatum(t, "#("+full+")", nodes...)
	checkDatum(t, "#("+strings.Repeat("a ", most)+")", row(slices.Repeat([]int{1}, most)...), symbol("a"))
	checkReadsAs(t, "#(#;x "+full+" #;x)", "#("+full+")")
	checkReadsAs(t, "#;#("+full+") a", "a")
	for _, text := range []string{
		"#(" + full + " x«)", "#(" + strings.Repeat("a ", most+1) + "«)", "#(" + strings.Repeat("a ", 2*most) + "«)", "(b #(" + full + " x«) c)", "#(#(" + full + " x«))", "'#(" + full + " x #;y«)",
		"#;#(" + full + " x«) a", "(a #;#(" + full + " x«))", "#0=#(" + full + " #0#«)", "#;#;#(" + full + " x«) a b", "#(" + full + " ()«) #u8(a)", "#(" + full + " x«))",
	} {
		checkReadFault(t, text, impl.ReadTooMany)
	}
	checkReadFault(t, "#("+full+" x", impl.ReadUneven)
	checkReadFault(t, "#("+full+" x «.)", impl.ReadBadDot)
	checkReadFault(t, "#("+full+" x «#0#)", impl.ReadBadLabel)
	checkDatum(t, "("+strings.Repeat("a ", most+1)+")"+"#;"+"#("+full+")", listOfOne(most+1)...) // a list has no such bound
}

// listOfOne is the nodes of a list of the symbol a, so many times.
func listOfOne(often int) []string {
	nodes := []string{pair(1, 2), symbol("a")}
	for i := 1; i < often; i++ {
		nodes = append(nodes, pair(1, i+2))
	}
	return append(nodes, null)
}

func TestP7MostNodes(t *testing.T) {
	const most = impl.ReadMaxNodes
	full := "#(" + names("a", 39) + ") #(" + names("b", 39) + ")"
	if d, fault := parse(t, full); fault.Code != 0 || len(d.Nodes) != most {
		t.Errorf("%d nodes, fault %+v", len(d.Nodes), fault)
	}
	checkReadFault(t, full+" c", impl.ReadTooMany)
	checkReadFault(t, "c "+full, impl.ReadTooMany)
	checkReadFault(t, "#("+names("a", 39)+") #("+names("b", 40)+")", impl.ReadTooMany)
	// nodes that are the same, and what is left out, do not count
	for _, more := range []string{" a0", " b38 a1", " #(" + names("a", 39) + ")", " #;c", " #;(" + names("c", 90) + ")"} {
		if d, fault := parse(t, full+more); fault.Code != 0 || len(d.Nodes) != most {
			t.Errorf("%s: %d nodes, fault %+v", short(more), len(d.Nodes), fault)
		}
	}
	checkDatum(t, "("+strings.Repeat("a ", most-2)+")", listOfOne(most-2)...)
	checkReadFault(t, "("+strings.Repeat("a ", most-1)+")", impl.ReadTooMany)
	checkDatum(t, "#0=("+strings.Repeat("a ", 290)+". #0#)", pair(1, 0), symbol("a"))
	checkDatum(t, "#("+strings.Repeat("#() ", 40)+")", row(slices.Repeat([]int{1}, 40)...), row())
	checkReadFault(t, strings.Repeat("'", 299)+"a", impl.ReadTooMany)
	checkReadFault(t, strings.Repeat("(", 150)+strings.Repeat(")", 150), impl.ReadTooMany)
	checkDatum(t, strings.Repeat("(", 80)+strings.Repeat(")", 80), deepNil(80)...)
	checkReadFault(t, strings.Repeat("(", 81)+strings.Repeat(")", 81), impl.ReadTooMany)
}

// deepNil is the nodes of the empty list within so many lists, less one.
func deepNil(deep int) []string {
	nodes := []string{}
	for i := 1; i < deep; i++ {
		nodes = append(nodes, pair(i, deep-1))
	}
	return append(nodes, null)
}

func TestP7MostRoots(t *testing.T) {
	const most = impl.ReadMaxRoots
	checkData(t, strings.Repeat("a ", most), make([]int, most), symbol("a"))
	checkData(t, strings.Repeat("#;b a ", most)+"#;c", make([]int, most), symbol("a"))
	checkReadFault(t, strings.Repeat("a ", most+1), impl.ReadTooMany)
	checkReadFault(t, strings.Repeat("() ", most+1), impl.ReadTooMany)
	checkReadFault(t, strings.Repeat("a ", 300), impl.ReadTooMany)
	checkReadFault(t, strings.Repeat("#0=(a . #0#) ", most+1), impl.ReadTooMany)
}

// TestP7FirstFault has texts with several faults: that of ReadTokens is told, else that of the first token that has one, else what is At 0.
func TestP7FirstFault(t *testing.T) {
	tooWide := "#(" + names("a", 41) + "«)"
	tooMany, tooDeep := names("a", 13), "("+names("a", 90)+")"
	for text, code := range map[string]int{
		// of ReadTokens, behind others
		") «1b": 1, "(a . )« #|": 1, "(«\"": 1, "#0# . ) #u8(a) «\\": 1, tooMany + " «|": 1, "' ' ) «" + strings.Repeat("a", 201): 1, ")" + strings.Repeat("(", 299) + "«(": 7, ")" + strings.Repeat(" ", 4000): 7,
		// the first token that has one
		"«) . #0#": 2, "(a '«) . )": 2, "(a . «. b": 3, "(«. a) )": 3, "(a . b «c #0#)": 3, "(a «#0# . )": 4, "(«#1# #u8(a) )": 4, "(#0=a «#0=b #1#)": 4, "#u8(1 «a b": 5, "#u8(«256 #;)": 5,
		tooWide + " #0#": 6, "#(" + names("a", 41) + " '«) )": 2, tooWide + " #u8(a)": 6, "#u8(«a) #(" + names("a", 41) + ")": 5,
		// ahead of the end
		"((«. ": 3, "(«#0#": 4, "#u8(«a": 5, tooWide + " (": 6, "(a . b «c": 3, "(#0=a «#0=b": 4,
		// ahead of what has no place
		tooMany + " («#0#)": 4, tooMany + " (": 2, tooMany + "«)": 2, tooMany + " «.": 3, tooMany + " #u8(«256)": 5, tooMany + " " + tooWide: 6,
		tooDeep + " «)": 2, tooDeep + " «.": 3, tooDeep + " #u8(«a)": 5, tooDeep + tooWide: 6, tooDeep + " '": 2, tooDeep + tooMany: 6,
	} {
		checkReadFault(t, text, code)
	}
}

func TestP7GoingAround(t *testing.T) {
	checkDatum(t, "#0=(a b . #0#)", pair(1, 2), symbol("a"), pair(3, 0), symbol("b"))
	checkDatum(t, "#0=#(a #(#0#))", row(1, 2), symbol("a"), row(0))
	checkDatum(t, "#0=(#1=(a #0# . #1#) . #0#)", pair(1, 0), pair(2, 3), symbol("a"), pair(0, 1))
	checkDatum(t, "#0=#(#1=(#0# . #1#))", row(1), pair(0, 1))
	// what is the same is one, however often it goes around until it comes again
	checkDatum(t, "#0=(a a . #0#)", pair(1, 0), symbol("a"))
	checkDatum(t, "#0=(a b a b a b . #0#)", pair(1, 2), symbol("a"), pair(3, 0), symbol("b"))
	checkData(t, "#0=(a . #0#) #1=(a a . #1#) (a . #2=(a . #2#))", []int{0, 0, 0}, pair(1, 0), symbol("a"))
	checkData(t, "#0=(a b . #0#) #0=(b a . #0#)", []int{0, 2}, pair(1, 2), symbol("a"), pair(3, 0), symbol("b"))
	checkDatum(t, "#0=(#1=(#1# . #0#) . #1#)", pair(0, 0))
	checkDatum(t, "#0=#(#1=#(#1#))", row(0))
}

func TestP7EachOnce(t *testing.T) {
	checkData(t, "a b a", []int{0, 1, 0}, symbol("a"), symbol("b"))
	checkData(t, "(a) a (a) ()", []int{0, 1, 0, 2}, pair(1, 2), symbol("a"), null)
	checkData(t, "b (a b) (b)", []int{0, 1, 3}, symbol("b"), pair(2, 3), symbol("a"), pair(0, 4), null)
	checkDatum(t, "((a b) (a b) b)", pair(1, 6), pair(2, 3), symbol("a"), pair(4, 5), symbol("b"), null, pair(1, 3))
	checkDatum(t, "#((a) #(a) (a) #(a) #u8(1) #u8(1) \"a\" #\\a)",
		row(1, 4, 1, 4, 5, 5, 6, 7), pair(2, 3), symbol("a"), null, row(2), raws("\x01"), str("a"), character("a"))
	checkDatum(t, "(1 #x1 2/2 \"1\")", pair(1, 2), number("1"), pair(1, 3), pair(1, 4), pair(5, 6), str("1"), null)
	checkData(t, "#;x a #;(y z) b", []int{0, 1}, symbol("a"), symbol("b"))
	checkData(t, "'a (quote a) `a", []int{0, 0, 5}, pair(1, 2), symbol("quote"), pair(3, 4), symbol("a"), null, pair(6, 2), symbol("quasiquote"))
}

func TestP7NothingIsKept(t *testing.T) {
	for _, text := range []string{"(a #0=(b . #0#) #(c d) #u8(1)) #(#(e) #()) 'f", "#0=(a . #0#)", "#1=#(a #1# #1#) a a a"} {
		d, _ := parse(t, text)
		kept := copied(d)
		checkApart(t, d)
		for i := range d.Nodes {
			d.Nodes[i] = impl.ReadNode{Sort: -1}
		}
		d.Roots[0] = 99
		if again, _ := parse(t, text); !equal(again, kept) {
			t.Errorf("%q: %v, then %v", text, kept, again)
		}
	}
	parse(t, "(#0=a") // a fault leaves no label behind
	checkReadFault(t, "(«#0#)", impl.ReadBadLabel)
}

// readWords are the tokens that texts are made of by chance, or one behind the other.
var readWords = []string{"a", "(", ")", ".", "'", "#(", "#u8(", "#;", "#0=", "#0#", "#1=", "#1#", "1"}

// TestP7EveryShortText has every text of up to five tokens.
func TestP7EveryShortText(t *testing.T) {
	texts := []string{""}
	for range 5 {
		next := []string{}
		for _, text := range texts {
			for _, word := range readWords {
				next = append(next, text+word+" ")
			}
		}
		for _, text := range next {
			checkAnotherWay(t, text)
			if t.Failed() {
				return
			}
		}
		texts = next
	}
}

// datum makes a text of a datum, not too deep; marks is how many labels it has, and comes back to.
func (d *dice) datum(deep int, marks *int) string {
	if deep == 0 || d.upTo(4) == 0 {
		if *marks > 0 && d.upTo(1) == 0 {
			return "#" + strconv.Itoa(d.upTo(*marks-1)) + "#"
		}
		return []string{"a", "b", "1", "\"s\"", "()", "#t", "#\\a", "#u8(1)", "#u8()", "#()"}[d.upTo(9)]
	}
	switch d.upTo(6) {
	case 0:
		return "#(" + d.data(deep-1, marks) + ")"
	case 1:
		return "'" + d.datum(deep-1, marks)
	case 2:
		return "#;" + d.datum(deep-1, marks) + " " + d.datum(deep-1, marks)
	case 3, 4:
		label := strconv.Itoa(*marks)
		*marks++
		if d.upTo(9) == 0 {
			return "#" + label + "=" + d.datum(deep-1, marks) // it may be a ReadBack, and so a fault
		}
		return "#" + label + "=(" + d.datum(deep-1, marks) + " . " + d.datum(deep-1, marks) + ")"
	case 5:
		return "(a " + d.data(deep-1, marks) + " . " + d.datum(deep-1, marks) + ")"
	}
	return "(" + d.data(deep-1, marks) + ")"
}

// data makes some of them.
func (d *dice) data(deep int, marks *int) string {
	parts := []string{}
	for range d.upTo(3) {
		parts = append(parts, d.datum(deep, marks))
	}
	return strings.Join(parts, " ")
}

// bent is a text with a few tokens put in, or left away.
func (d *dice) bent(text string) string {
	words := strings.Fields(text)
	for range d.upTo(2) {
		at := d.upTo(len(words))
		if at < len(words) && d.upTo(1) == 0 {
			words = slices.Delete(words, at, at+1)
		} else {
			words = slices.Insert(words, at, readWords[d.upTo(len(readWords)-1)])
		}
	}
	return strings.Join(words, " ")
}

// TestP7AnotherWay holds what is read of many texts against another way to read them.
func TestP7AnotherWay(t *testing.T) {
	d := &dice{state: 21}
	codes := map[int]int{}
	for i := range 30_000 {
		text := ""
		for range d.upTo(3) + 1 {
			marks := 0
			text += d.datum(5, &marks) + " "
		}
		if i%3 == 0 {
			text = d.bent(text)
		}
		codes[checkAnotherWay(t, text).Code]++
		if t.Failed() {
			return // one text is enough to tell
		}
	}
	for code, least := range map[int]int{0: 9000, 2: 500, 3: 100, 4: 1000, 5: 20} {
		if codes[code] < least {
			t.Errorf("faults by code: %v", codes)
		}
	}
}

// TestP7Pieces has texts that are hardly data at all.
func TestP7Pieces(t *testing.T) {
	d := &dice{state: 22}
	for range 20_000 {
		checkAnotherWay(t, d.chance(true))
		if t.Failed() {
			return
		}
	}
}
