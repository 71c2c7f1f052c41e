package tests

import (
	"fmt"
	"runtime"
	"slices"
	"strconv"
	"strings"
	"sync"
	"testing"
	"testing/synctest"

	"loop.example/sistab/impl"
)

// checkShowIsPrint has data without strings and characters; it says whether they can be written.
func checkShowIsPrint(t *testing.T, d impl.ReadData) bool {
	t.Helper()
	print, printed, show, shown := written(t, d)
	if print != show || printed != shown {
		t.Errorf("%v: written %s %v, but shown %s %v", d, short(print), printed, short(show), shown)
	}
	return printed
}

// hasShown says whether there are strings or characters among the nodes.
func hasShown(d impl.ReadData) bool {
	return slices.ContainsFunc(d.Nodes, func(n impl.ReadNode) bool { return n.Sort == impl.ReadString || n.Sort == impl.ReadChar })
}

func TestP8ShowIsPrint(t *testing.T) {
	checkShowIsPrint(t, impl.ReadData{})
	for sort, of := range texts {
		for _, text := range of.right {
			d := data(node(sort, text, make([]int, kidCounts(sort)[0])...))
			if !hasShown(d) && !checkShowIsPrint(t, d) {
				t.Errorf("%v: not written", d)
			}
		}
	}
	for size := 1; size <= 3; size++ {
		everySmallGraph(size, func(d impl.ReadData) {
			if !t.Failed() {
				checkShowIsPrint(t, d)
			}
		})
	}
}

// TestP8ShowIsPrintByChance has many data, with what is shown another way made symbols.
func TestP8ShowIsPrintByChance(t *testing.T) {
	d := &dice{state: 61}
	wrote := map[bool]int{}
	for i := range 4000 {
		g := d.anyData(d.upTo(11) + 1)
		if i%4 == 0 {
			g = d.graph(d.upTo(40) + 20) // often too long
		}
		for k, n := range g.Nodes {
			if n.Sort == impl.ReadString || n.Sort == impl.ReadChar {
				g.Nodes[k] = node(impl.ReadSymbol, "s"+strconv.Itoa(k))
			}
		}
		wrote[checkShowIsPrint(t, g)]++
		if t.Failed() {
			return // one graph is enough to tell
		}
	}
	if wrote[true] < 2500 || wrote[false] < 50 {
		t.Errorf("written: %v", wrote)
	}
}

// TestP8ShowIsPrintToTheEnd has data that just fit, that just do not, and that are not ok.
func TestP8ShowIsPrintToTheEnd(t *testing.T) {
	for last, fits := range map[int]bool{177: true, 178: true, 179: false, 200: false} {
		d, fault := parse(t, longRow("a", 19, last))
		if fault.Code != 0 || checkShowIsPrint(t, d) != fits {
			t.Errorf("%d: fault %+v, or written the wrong way", last, fault)
		}
	}
	for name, d := range notOkData() {
		if !hasShown(d) && checkShowIsPrint(t, d) && !impl.ReadOk(d) {
			t.Errorf("%s: written", name)
		}
	}
}

func TestP8Example(t *testing.T) {
	checkAnswer(t, `; a first look
(define (f x) "a\tb\x41;" #\a #\space) ; ends
'(1 . (2 3)) #| here #| and there |# |# (quote (1 2 3))
#0=(a b . #0#) #1=(a b a b . #1#)
#(1/2 #xff -6/4 #u8(1 2 255)) #;(left out) (x . #2=(y . #2#))
`,
		`0: (define (f x) "a\tbA" #\a #\space)`,
		"1: (quote (1 2 3))",
		"1: (quote (1 2 3))",
		"3: #0=(a b . #0#)",
		"3: #0=(a b . #0#)",
		"5: #(1/2 255 -3/2 #u8(1 2 255))",
		"6: (x . #0=(y . #0#))",
		"(define (f x) a\tbA a  )",
		"(quote (1 2 3))",
		"(quote (1 2 3))",
		"#0=(a b . #0#)",
		"#0=(a b . #0#)",
		"#(1/2 255 -3/2 #u8(1 2 255))",
		"(x . #0=(y . #0#))")
}

func TestP8NoData(t *testing.T) {
	for _, text := range []string{"", " ", "\n", "\t\r\n ", "; c", "; c\n", ";\n;\n", "#|c|#", "#| #| c |# |# ; d", "#;a", "#;(a . b)", "#;#;a b", "#;#0=(a . #0#) ; c\n #;\"s\"", " #;#\\( #|c|#\n"} {
		checkAnswer(t, text, "")
	}
}

func TestP8OneDatum(t *testing.T) {
	for text, want := range map[string]struct{ print, show string }{
		"-6/4": {"-3/2", "-3/2"}, "a": {"a", "a"}, `"a\x41;"`: {`"aA"`, "aA"}, `""`: {`""`, ""}, `#\a`: {`#\a`, "a"}, `#\x20`: {`#\space`, " "}, `#\null`: {`#\null`, "\x00"}, "#true": {"#t", "#t"}, "#f": {"#f", "#f"},
		"()": {"()", "()"}, "(a . (b))": {"(a b)", "(a b)"}, "#( )": {"#()", "#()"}, "#u8( 1 #xff )": {"#u8(1 255)", "#u8(1 255)"}, "`(a ,b)": {"(quasiquote (a (unquote b)))", "(quasiquote (a (unquote b)))"},
		"#7=(a . #7#)": {"#0=(a . #0#)", "#0=(a . #0#)"}, "#;x a #;y": {"a", "a"},
	} {
		checkAnswer(t, text, "0: "+want.print, want.show)
		checkAnswer(t, "z "+text, "0: z", "1: "+want.print, "z", want.show)
	}
}

func TestP8Faults(t *testing.T) {
	long := strings.Repeat("a", 201)
	wide := "#(" + names("a", 41)
	for text, code := range map[string]int{
		"«1b": 1, "a «1b c": 1, "a (b) «#q": 1, "(a b«\"c) d": 1, "«#| c": 1, "a« #| c": 1, "(a)« #| c": 1, "a b «" + long: 1, "«" + long + " a": 1, "'a «\\": 1,
		"«)": 2, "a «) b": 2, "(a) «)": 2, "(a '«) b": 2, "(a": 2, "a '": 2, "#0=": 2, "a #(": 2, "#u8(1": 2, "a (b . ": 2, "#;": 2, "(a . #;b «)": 2,
		"«. a": 3, "(«. a) b": 3, "a (b . «)": 3, "a (b . c «d)": 3, "a «.": 3, "#(a «. b)": 3,
		"«#0#": 4, "a (b «#0# c)": 4, "a «#0#": 4, "(#0=a «#0=b)": 4, "«#0=#0# a": 4, "#0=(a . #0#) «#0#": 4,
		"#u8(«a)": 5, "a #u8(1 «256 3) b": 5, "a #u8(1 2 «-1": 5, "#u8(" + strings.Repeat("0 ", 200) + "«0)": 5,
		wide + "«)": 6, "a " + wide + "«) b": 6, strings.Repeat("a ", 13): 6, "(" + names("a", 80) + ")": 6,
		strings.Repeat("a ", 300) + "«a": 7, "(" + strings.Repeat("a ", 299) + "«) b": 7, "a ;" + strings.Repeat("c", 3998): 7, strings.Repeat("(", 4001): 7,
	} {
		checkAnswerFault(t, text, code)
	}
}

// TestP8ToldAgain has roots that are the same: each tells the place of the first of them.
func TestP8ToldAgain(t *testing.T) {
	checkAnswer(t, "a a", "0: a", "0: a", "a", "a")
	checkAnswer(t, "a a a", "0: a", "0: a", "0: a", "a", "a", "a")
	checkAnswer(t, "a b a", "0: a", "1: b", "0: a", "a", "b", "a")
	checkAnswer(t, "b a a", "0: b", "1: a", "1: a", "b", "a", "a")
	checkAnswer(t, "c a b a b a", "0: c", "1: a", "2: b", "1: a", "2: b", "1: a", "c", "a", "b", "a", "b", "a")
	checkAnswer(t, "() (a) #;b (a) ()", "0: ()", "1: (a)", "1: (a)", "0: ()", "()", "(a)", "(a)", "()")
	checkAnswer(t, `a "a" #\a #t t a "a"`, "0: a", `1: "a"`, `2: #\a`, "3: #t", "4: t", "0: a", `1: "a"`, "a", "a", "a", "#t", "t", "a", "a")
	checkAnswer(t, "() #() #u8() \"\" ()", "0: ()", "1: #()", "2: #u8()", `3: ""`, "0: ()", "()", "#()", "#u8()", "", "()")
}

// TestP8WrittenOtherwise has data that are the same, though their texts are not.
func TestP8WrittenOtherwise(t *testing.T) {
	checkAnswer(t, "1/2 2/4 .5 #b1/10", "0: 1/2", "0: 1/2", "0: 1/2", "0: 1/2", "1/2", "1/2", "1/2", "1/2")
	checkAnswer(t, "'a (quote a) (quote . ('a))", "0: (quote a)", "0: (quote a)", "2: (quote (quote a))", "(quote a)", "(quote a)", "(quote (quote a))")
	checkAnswer(t, "\"A\" \"\\x41;\" #\\space #\\x20", `0: "A"`, `0: "A"`, `2: #\space`, `2: #\space`, "A", "A", " ", " ")
	checkAnswer(t, "(a b) (a . (b)) (a b . ()) (a . b)", "0: (a b)", "0: (a b)", "0: (a b)", "3: (a . b)", "(a b)", "(a b)", "(a b)", "(a . b)")
	around := "#0=(a b . #0#)"
	checkAnswer(t, "#3=(a b a b . #3#) (a . #0=(b a . #0#)) #0=(a b . #0#) (a b . #1=(a . #2=(b . #1#)))",
		"0: "+around, "0: "+around, "0: "+around, "0: "+around, around, around, around, around)
	checkAnswer(t, "#0=#(#0#) #0=#(#(#0#)) #(#0=#(#0#)) #()", "0: #0=#(#0#)", "0: #0=#(#0#)", "0: #0=#(#0#)", "3: #()", "#0=#(#0#)", "#0=#(#0#)", "#0=#(#0#)", "#()")
	checkAnswer(t, "#0=(a b . #0#) #0=(b a . #0#)", "0: #0=(a b . #0#)", "1: #0=(b a . #0#)", "#0=(a b . #0#)", "#0=(b a . #0#)")
}

// TestP8RootInRoot has roots that are in others: each is written as if it were the only one.
func TestP8RootInRoot(t *testing.T) {
	checkAnswer(t, "(x . #0=(y . #0#)) #0=(y . #0#)", "0: (x . #0=(y . #0#))", "1: #0=(y . #0#)", "(x . #0=(y . #0#))", "#0=(y . #0#)")
	checkAnswer(t, "#0=(y . #0#) (x . #0=(y . #0#))", "0: #0=(y . #0#)", "1: (x . #0=(y . #0#))", "#0=(y . #0#)", "(x . #0=(y . #0#))")
	checkAnswer(t, "#0=(a #1=(b #0# . #1#)) #1=(b #0=(a #1#) . #1#)",
		"0: #0=(a #1=(b #0# . #1#))", "1: #0=(b (a #0#) . #0#)", "#0=(a #1=(b #0# . #1#))", "#0=(b (a #0#) . #0#)")
	checkAnswer(t, "(#0=(a . #0#) #1=(b . #1#)) #1=(b . #1#) #1=(a . #1#)",
		"0: (#0=(a . #0#) #1=(b . #1#))", "1: #0=(b . #0#)", "2: #0=(a . #0#)", "(#0=(a . #0#) #1=(b . #1#))", "#0=(b . #0#)", "#0=(a . #0#)")
	checkAnswer(t, "(a (b c)) (b c) c (c)", "0: (a (b c))", "1: (b c)", "2: c", "3: (c)", "(a (b c))", "(b c)", "c", "(c)")
}

func TestP8MostRoots(t *testing.T) {
	const most = impl.ReadMaxRoots
	lines, shown, same := []string{}, []string{}, []string{}
	for i := range most {
		lines = append(lines, fmt.Sprintf("%d: a%d", i, i))
		shown = append(shown, fmt.Sprintf("a%d", i))
		same = append(same, "0: a0")
	}
	checkAnswer(t, names("a", most), append(lines, shown...)...)
	checkAnswer(t, strings.Repeat("a0 ", most)+"#;b", append(same, slices.Repeat([]string{"a0"}, most)...)...)
	checkAnswer(t, names("a", most-1)+" a0", slices.Concat(lines[:most-1], same[:1], shown[:most-1], shown[:1])...)
	checkAnswerFault(t, names("a", most+1), impl.ReadTooMany)
	checkAnswerFault(t, strings.Repeat("a0 ", most+1), impl.ReadTooMany)
}

// TestP8TooLong has data of which some lines are too long, and the others are not.
func TestP8TooLong(t *testing.T) {
	const long = "too long"
	fits, full := longRow("a", 19, 178), longRowWritten("a", 19, 178)
	spent, other := longRow("a", 19, 179), longRow("b", 20, 1)
	checkAnswer(t, fits, "0: "+full, full)
	checkAnswer(t, spent, "0: "+long, long)
	// a root too long, the others not
	checkAnswer(t, "a "+spent+" b a", "0: a", "1: "+long, "2: b", "0: a", long)
	checkAnswer(t, spent+" "+other+" "+spent, "0: "+long, "1: "+long, "0: "+long, long)
	// each root fits, but not all
	checkAnswer(t, fits+" a", "0: "+full, "1: a", long)
	checkAnswer(t, "a "+fits, "0: a", "1: "+full, long)
	left, right := longRowWritten("a", 9, 187), longRowWritten("b", 9, 188) // 1999 and 2000 bytes, and a newline between
	checkAnswer(t, longRow("a", 9, 187)+longRow("b", 9, 188), "0: "+left, "1: "+right, left, right)
	right = longRowWritten("b", 9, 189)
	checkAnswer(t, longRow("a", 9, 187)+longRow("b", 9, 189), "0: "+left, "1: "+right, long)
}

// TestP8TooLongToBeWrittenAlone has data that are too long as they are written, and not as they are shown.
func TestP8TooLongToBeWrittenAlone(t *testing.T) {
	const long = "too long"
	print := `#("` + strings.Repeat("a", 200) + `"` + strings.Repeat(` "`+strings.Repeat("a", 200)+`"`, 18) + ` "`
	show := "#(" + strings.Repeat(strings.Repeat("a", 200)+" ", 19)
	for last, wants := range map[int]struct{ printed, shown bool }{138: {true, true}, 139: {false, true}, 178: {false, true}, 179: {false, false}} {
		z := strings.Repeat("z", last)
		lines := []string{"0: " + print + z + `")`, show + z + ")"}
		if !wants.printed {
			lines[0] = "0: " + long
		}
		if !wants.shown {
			lines[1] = long
		}
		checkAnswer(t, `#(#0="`+strings.Repeat("a", 200)+`"`+strings.Repeat(" #0#", 18)+` "`+z+`")`, lines...)
	}
	bell := strings.Repeat("\x01", 200)
	checkAnswer(t, `a #(#0="`+strings.Repeat(`\x1;`, 200)+`" #0# #0# #0# #0#) "b"`, "0: a", "1: "+long, `2: "b"`, "a", "#("+strings.TrimSpace(strings.Repeat(bell+" ", 5))+")", "b")
}

func TestP8Strings(t *testing.T) {
	checkAnswer(t, `"a\nb" "\t" "\"" "\\"`, `0: "a\nb"`, `1: "\t"`, `2: "\""`, `3: "\\"`, "a", "b", "\t", `"`, `\`)
	checkAnswer(t, "\"a\nb\tc\rd\"", `0: "a\nb\tc\xd;d"`, "a", "b\tc\rd")
	checkAnswer(t, `("\n" #\newline #\tab #\" "é")`, `0: ("\n" #\newline #\tab #\" "é")`, "(\n \n \t \" é)")
	checkAnswer(t, `"" "\n" ""`, `0: ""`, `1: "\n"`, `0: ""`, "", "", "", "")
	checkAnswer(t, `"0: a\n1: b" "too long" "fault 1 at 0"`, `0: "0: a\n1: b"`, `1: "too long"`, `2: "fault 1 at 0"`, "0: a", "1: b", "too long", "fault 1 at 0")
}

func TestP8LongestText(t *testing.T) {
	const most = impl.ReadMaxText
	checkAnswer(t, "a"+strings.Repeat(" ", most-1), "0: a", "a")
	checkAnswer(t, strings.Repeat("\n", most-1)+"a", "0: a", "a")
	checkAnswer(t, strings.Repeat("\n", most), "")
	checkAnswer(t, "a;"+strings.Repeat("\xff", most-2), "0: a", "a")
	checkAnswerFault(t, strings.Repeat(" ", most-1)+"«)", impl.ReadUneven)
	for _, text := range []string{"a" + strings.Repeat(" ", most), strings.Repeat("\n", most) + "a", strings.Repeat(" ", most+1), ")" + strings.Repeat(" ", most), "#|" + strings.Repeat("\xff", most), strings.Repeat("a", 1_000_000)} {
		checkAnswerFault(t, text, impl.ReadTooLong)
	}
}

func TestP8BytesThatAreNoCharacters(t *testing.T) {
	for _, no := range []string{"\xff", "\x80", "\xc3", "\xc0\x80", "\xed\xa0\x80", "\xf4\x90\x80\x80"} {
		checkAnswerFault(t, "«"+no, 1)
		checkAnswerFault(t, "a (b «c"+no+" d)", 1)
		checkAnswerFault(t, "a «\""+no+"\"", 1)
		checkAnswerFault(t, "(a «#\\"+no+")", 1)
		checkAnswer(t, ";"+no+"\na #|"+no+"|# b;"+no, "0: a", "1: b", "a", "b")
	}
	checkAnswerFault(t, "a «\x00", 1)
	checkAnswer(t, "é \"\ufffd\" #\\😀", "0: é", "1: \"\ufffd\"", `2: #\😀`, "é", "\ufffd", "😀")
}

// manyTexts makes texts of data that come again often, in one way or another, some of them bent.
func manyTexts(often int) []string {
	d := &dice{state: 62}
	out := []string{}
	for i := range often {
		pool := []string{"1/2", "2/4", "'a", "(quote a)", "#0=(a b . #0#)", "#1=(a b a b . #1#)", "\"a\\n\"", longRow("a", 19, 178), longRow("b", 18, 200) + "\"c\""}
		for range 3 {
			marks := 0
			pool = append(pool, d.datum(4, &marks))
		}
		text := ""
		for range d.upTo(7) {
			pick := d.upTo(len(pool) - 1)
			if d.upTo(1) == 0 {
				pick = len(pool) - 1 - d.upTo(2)
			}
			text += pool[pick] + " "
		}
		if i%5 == 0 {
			text = d.bent(text)
		}
		if i%7 == 0 {
			text += d.chance(true)
		}
		out = append(out, text)
	}
	return out
}

// TestP8AnotherWay holds what is answered to many texts against another way to answer.
func TestP8AnotherWay(t *testing.T) {
	kinds := map[string]int{}
	for _, text := range manyTexts(3000) {
		got := checkOtherSession(t, text)
		if t.Failed() {
			return // one text is enough to tell
		}
		switch {
		case strings.HasPrefix(got, "fault "):
			kinds["fault"]++
		case strings.HasSuffix(got, "too long\n"):
			kinds["too long"]++
		case got == "\n":
			kinds["none"]++
		default:
			kinds["data"]++
		}
	}
	for kind, least := range map[string]int{"fault": 500, "too long": 200, "none": 50, "data": 500} {
		if kinds[kind] < least {
			t.Errorf("answers: %v", kinds)
		}
	}
}

// TestP8EveryShortText has every text of up to three tokens, and texts that are hardly data at all.
func TestP8EveryShortText(t *testing.T) {
	texts := []string{""}
	for first := 0; len(texts) < 2000; first++ {
		for _, word := range readWords {
			texts = append(texts, texts[first]+word+" ")
		}
	}
	d := &dice{state: 63}
	for i := range 4000 {
		texts = append(texts, d.chance(i%2 == 0))
	}
	for _, text := range texts {
		checkOtherSession(t, text)
		if t.Failed() {
			return
		}
	}
}

// TestP8ManyCalls has many calls at one time, and one behind the other, with one processor and with several: each text has one answer.
func TestP8ManyCalls(t *testing.T) {
	texts := append(manyTexts(40), names("a", 12), strings.Repeat("a ", 12), strings.Repeat("b a ", 6), "")
	wants := []string{}
	for _, text := range texts {
		wants = append(wants, otherSession(text))
	}
	for _, processors := range []int{1, 2, runtime.NumCPU()} {
		before := runtime.GOMAXPROCS(processors)
		var callers sync.WaitGroup
		for range 20 {
			callers.Go(func() {
				for i, text := range texts {
					if got := impl.ReadSession(text); got != wants[i] {
						t.Errorf("%s: %s, not %s", short(text), short(got), short(wants[i]))
					}
				}
			})
		}
		callers.Wait()
		runtime.GOMAXPROCS(before)
	}
}

// TestP8LeavesNothingBehind asks within a bubble, which tells of all that would wait in it for ever.
func TestP8LeavesNothingBehind(t *testing.T) {
	for _, text := range []string{"", "a", "(a", names("a", 12), names("a", 13), longRow("a", 20, 1), strings.Repeat(" ", 4001)} {
		synctest.Test(t, func(t *testing.T) {
			checkOtherSession(t, text)
		})
	}
}
