package tests

import (
	"slices"
	"strings"
	"sync"
	"testing"

	"loop.example/sistab/impl"
)

func TestP14SessionExample(t *testing.T) {
	checkTold(t, `put (1 2)
put #0=(a b . #0#)
get (a . #0=(b a . #0#))
get (1 . (2))
sort 10 2 1/2 "b" a () (1 3) (1 2 9) -5 #t
drop (1 2)
keys
get (1 2)
put 6/4
put 1.5
keys
put
what 1
sort
get (
`, `ok
ok
#0=(a b . #0#)
(1 2)
sorted -5 1/2 2 10 a "b" #t () (1 2 9) (1 3)
ok
#0=(a b . #0#) #0=(a b . #0#)
none
ok
ok
#0=(a b . #0#) #0=(a b . #0#), 3/2 3/2
bad
bad
sorted
fault 2 at 3
`)
}

// TestP14SessionLines has texts of lines: each has one line of answer, the last one with a newline, too, though its own line has none.
func TestP14SessionLines(t *testing.T) {
	checkTold(t, "", "")
	checkTold(t, "\n", "bad\n")
	checkTold(t, "\n\n\n", "bad\nbad\nbad\n")
	checkTold(t, "keys", "\n")
	checkTold(t, "keys\n", "\n")
	checkTold(t, "keys\n\n", "\nbad\n")
	checkTold(t, "\nkeys", "bad\n\n")
	checkTold(t, "put a\nget a", "ok\na\n")
	checkTold(t, "put a\r\nget a\r\n\r\nkeys\r", "ok\na\nbad\na a\n")
	checkTold(t, "put a\rget a\n", "bad\n") // byte 13 ends no line
	checkTold(t, "put (a\nb)\n", "fault 2 at 3\nfault 2 at 1\n")
	checkTold(t, "put \"a\nb\"\n", "bad\nbad\n")
	checkTold(t, "#| a\nkeys\n|#\n", "bad\n\nbad\n")
}

// TestP14SessionBad has lines that are bad, whatever the table.
func TestP14SessionBad(t *testing.T) {
	for _, line := range []string{
		"", " ", "\t \r", ";", "; put a", "#||#", "#| keys |#", "#;put", "#;put #;a", "#;(put a)", " #;keys ; c", // no datum
		"1", "(put a)", "\"put\" a", "#\\a", "#t", "()", "#(put)", "#u8()", "'put a", "#0=(put . #0#) a", "6/4 a", "#;put 1 a", "(", "1 (", "#t )", "\"\" #0#", // no symbol
		")", ") put a", ". a", "#0#", "#0=", "#0=#0#", "'", "#;", "#;)", "(a . b c) d", "#u8(a) b", // a fault of the first datum
		"put 1b", "put \"a", "get #q", "keys #| c", "sort a \\", "drop |a|", "what \xff", "\xff", "put a \"\\q\"", "put\xc3", // of ReadTokens, wherever it is
		"sort " + strings.Repeat("a ", 300), "put (" + strings.Repeat("a ", 298) + ")", // 301 tokens
		"put", "get", "drop", "put ; a", "get #;a", "drop #| a |#", // no data
		"put a b", "get a b", "drop a b", "put a a", "get () ()", "drop 'a 'a", "put a b c", "get #;a b c", "drop a #;b c", // two data, and more
		"keys a b", "keys () #;a ()", // data behind what has none
		"what", "a", "Keys", "PUT", "puts", "get.", "sorted", "sort1", "é", "what #;a", "what a b", "a b c", // no command
	} {
		checkLine(t, line, "bad")
	}
	for _, line := range []string{"what 1", "a b", "what #;a b", "Put a", "gets z", "sorted z", "puts (a . b)", "é é", "keys a", "keys keys", "keys #;a ()"} { // one datum that there is room for
		checkTurns(t, line, "bad")
		checkTurns(t, "put a", "ok", line, "bad", "keys", "a a")
		checkTurns(t, append(fullOfKeys(), line, "bad")...)
	}
}

// TestP14SessionAhead has what is left out ahead of the symbol, and ways to write the symbol.
func TestP14SessionAhead(t *testing.T) {
	checkTurns(t,
		" put a", "ok", "\tput b", "ok", "#;x put c", "ok", "#;(x y) #;#;z 1 put d", "ok", "#| put |# put e", "ok", "#0=put f", "ok", "#0=#;x put g", "ok", "put(h)", "ok", "put\"i\"", "ok", "put'j", "ok", "put;k", "bad", "put#(l)", "bad", "\rput m\r", "ok",
		" #;x get a ; c", "a", "get #;x (h)", "(h)", "get'j#;x", "none", "get'j #;x", "(quote j)", "get 'j;x", "(quote j)", "get #0=a", "a", "#0=get #0=a", "a",
		" keys", "a a, b b, c c, d d, e e, f f, g g, (h) (h), \"i\" \"i\", (quote j) (quote j), m m", "#;x drop b #;y", "ok", "#|a|#keys#|b|#", "bad", "keys #;(a b) ;c", "a a, c c, d d, e e, f f, g g, (h) (h), \"i\" \"i\", (quote j) (quote j), m m",
		"#;put get put", "none", "put put", "ok", "get put", "put", "sort sort", "sorted sort", "put keys", "ok", "get keys", "keys")
}

// TestP14SessionFaults has lines with a fault behind the symbol, by which its place is counted from the beginning of the line.
func TestP14SessionFaults(t *testing.T) {
	wide, more := "#("+names("a", 41), ending("a", 40, "b")
	for _, name := range []string{"put", "get", "drop", "keys", "sort", "what", "é", "€😀", " put", "#;x get", "#0=drop", "\t#|é|# sort", "#;\"é€😀\" keys"} {
		for behind, code := range map[string]int{
			" «)": 2, "«)": 2, " a «)": 2, " (": 2, "(": 2, " (a": 2, " '": 2, " a '": 2, " #;": 2, " #;«)": 2, " a #0=": 2, " é «)": 2, " \"é\" #\\€ 😀«)": 2, " #u8(1": 2, " (a . ": 2, " (a . #;b «)": 2, " ()«)": 2,
			" «.": 3, " a «. b": 3, " (a . «)": 3, " (é . b «c)": 3, " («. a)": 3,
			" «#0#": 4, " a «#0#": 4, " (#0=\"é\" «#0=a)": 4, " «#1=#1#": 4, " #0=a «#0#": 4,
			" #u8(«a)": 5, " é #u8(1 «256)": 5, " #u8(" + strings.Repeat("0 ", 200) + "«0)": 5,
			" " + wide + "«)": 6, " \"é\" " + wide + "«) b": 6, " " + more: 6, " " + names("a", 13): 6, " " + strings.Repeat("a ", 13): 6,
		} {
			checkLineFault(t, name+behind, len(name), code)
		}
	}
	checkTurns(t, "#0=get #0#", "fault 4 at 7") // a label of the symbol holds no further
	checkTurns(t, "put a", "ok", "put b )", "fault 2 at 6", "drop a )", "fault 2 at 7", "keys", "a a")
	checkTurns(t, "get a", "none", "", "bad", "\xff", "bad", "get (", "fault 2 at 3") // from the beginning of the line, not of the text
	checkTurns(t, "; é", "bad", "get )", "fault 2 at 4")
}

// TestP14SessionPut keeps data under data: what is the same is one key, however it is written.
func TestP14SessionPut(t *testing.T) {
	checkTurns(t, "put a", "ok", "get a", "a", "get b", "none", "get (a)", "none", "get \"a\"", "none", "get #\\a", "none")
	checkTurns(t, "put a", "ok", "put a", "ok", "keys", "a a", "put b", "ok", "put a", "ok", "keys", "a a, b b")
	for key, others := range map[string][]string{
		"3/2":            {"6/4", "1.5", "#b11/10", "#xc/8", "+3/2", "01.50"},
		"(1 2)":          {"(1 . (2))", "(1 2 . ())", "(1 . (2 . ()))", "(1 #;x 2)", "(1.0 4/2)", "#0=(1 . (2))"},
		"#0=(a b . #0#)": {"#3=(a b a b . #3#)", "(a . #0=(b a . #0#))", "(a b . #0=(a . (b . #0#)))"},
		"#0=#(#0#)":      {"#0=#(#(#0#))", "#(#0=#(#0#))", "#(#(#1=#(#1#)))"},
		"\"aA\"":         {"\"a\\x41;\"", "\"\\x61;A\""},
		"#\\space":       {"#\\ ", "#\\x20"},
		"#t":             {"#true"},
		"(quote a)":      {"'a", "(quote . (a))", "' a"},
		"#u8(1 255)":     {"#u8(#b1 #xff)", "#u8( 1.0 510/2 )"},
		"()":             {"( )", "( #;a )"},
	} {
		for _, other := range others {
			checkTurns(t, "put "+key, "ok", "get "+other, key, "put "+other, "ok", "keys", key+" "+key, "get "+key, key, "drop "+other, "ok", "keys", "", "get "+key, "none")
			checkTurns(t, "put "+other, "ok", "get "+key, key, "put x", "ok", "put "+key, "ok", "keys", key+" "+key+", x x", "drop "+key, "ok", "get "+other, "none", "drop "+other, "none")
		}
	}
}

// TestP14SessionWritten puts data whose text is as long as may be kept, longer, and too long to be written.
func TestP14SessionWritten(t *testing.T) {
	str := func(bytes int) string { return `"` + strings.Repeat("a", bytes-2) + `"` }
	wide := `"` + strings.Repeat("é", 99) + `"`
	checkTurns(t, "put "+str(200), "ok", "get "+str(200), str(200), "keys", str(200)+" "+str(200))
	checkTurns(t, "put "+str(201), "full", "get "+str(201), "none", "keys", "", "drop "+str(201), "none")
	checkTurns(t, "put "+wide, "ok", "get "+wide, wide, "put "+strings.Replace(wide, "é", "éa", 1), "full")
	checkTurns(t, "put "+strings.Repeat("a", 200), "ok", "keys", strings.Repeat("a", 200)+" "+strings.Repeat("a", 200))
	checkTurns(t, `put "`+strings.Repeat("\x01", 50)+`"`, "full", `put "`+strings.Repeat("\x01", 49)+`"`, "ok") // they are written \x1;
	checkTurns(t, "put "+longRow("a", 1, 10), "full", "put "+longRow("a", 19, 178), "full", "keys", "")
	// what cannot be written is written `too long`, and so that is kept
	spent, other := longRow("a", 19, 179), longRow("b", 20, 1)
	checkTurns(t, "put "+spent, "ok", "get "+spent, "too long", "keys", "too long too long", "get "+other, "none", "put "+other, "ok", "put a", "ok", "keys", "too long too long, too long too long, a a", "drop "+spent, "ok", "keys", "too long too long, a a", "get "+spent, "none", "get "+other, "too long")
}

// TestP14SessionFullOfKeys has a table of as many keys as may be.
func TestP14SessionFullOfKeys(t *testing.T) {
	told := []string{}
	for i := range impl.TabMaxKeys {
		told = append(told, strings.ReplaceAll("N N", "N", strings.Fields(names("", impl.TabMaxKeys))[i]))
	}
	keys := strings.Join(told, ", ")
	turns := append(fullOfKeys(), "keys", keys)
	checkTurns(t, slices.Concat(turns, []string{"put 20", "full", "put a", "full", "get 20", "none", "keys", keys})...)
	checkTurns(t, slices.Concat(turns, []string{"put 5", "ok", "put 19", "ok", "put 0", "ok", "put 38/2", "ok", "keys", keys, "put 20", "full"})...)
	checkTurns(t, slices.Concat(turns, []string{"drop 20", "none", "drop 0", "ok", "put 20", "ok", "keys", strings.Join(told[1:], ", ") + ", 20 20", "put 0", "full"})...)
	// what did not become a key leaves no nodes behind
	turns = append(turns, slices.Repeat([]string{"put (a b)", "full"}, 50)...)
	turns = append(turns, slices.Repeat([]string{"put 7", "ok"}, 60)...)
	checkTurns(t, append(turns, "put 7", "full", "get 7", "full", "keys", keys)...)
}

// TestP14SessionFullOfNodes has a table of as many nodes as may be, and of one less.
func TestP14SessionFullOfNodes(t *testing.T) {
	list := "(" + names("a", 39) + ")" // 79 nodes
	keys := list + " " + list
	checkTurns(t, append(fullOfNodes(),
		"put b", "full", "put z", "full", "put "+list, "full", "get z", "full", "get b", "full", "drop z", "full", "drop b", "full", "what z", "full", "a b", "full", "what ()", "full", "puts #;a z", "full",
		"what", "bad", "what z z", "bad", "put", "bad", "get z z", "bad", "drop", "bad", "keys z z", "bad", "1 z", "bad", "get (", "fault 2 at 3", "what )", "fault 2 at 5",
		"sort z", "sorted z", "sort", "sorted", "sort c b a", "sorted a b c", "sort "+list, "sorted "+list, "keys", keys+", z z")...)
	// keys with one datum is no command, and so an other symbol
	checkTurns(t, append(fullOfNodes(), "keys z", "full", "keys", keys+", z z")...)
	checkTurns(t, "put "+list, "ok", "put (b)", "full", "get (b)", "full", "drop (b)", "full", "what (b)", "full", "put #(#())", "full", "put ()", "ok", "put ()", "full", "keys", keys+", () ()")
	checkTurns(t, "put "+list, "ok", "keys "+list, "full", "keys b", "bad", "what b", "bad", "what "+list, "full", "put b", "ok", "what b", "full")
	// what is not kept leaves no nodes behind: not what was not found, not what was found, not what is bad
	turns := []string{"put " + list, "ok"}
	for range 5 {
		turns = append(turns, "get b", "none", "drop b", "none", "get \"b\"", "none", "what b", "bad", "keys b", "bad", "get #t", "none")
	}
	checkTurns(t, append(turns, "put z", "ok", "get z", "full", "keys", keys+", z z")...)
	checkTurns(t, append(slices.Concat([]string{"put b", "ok"}, slices.Repeat([]string{"get b", "b"}, 100)), "put "+list, "ok", "get b", "full")...)
	// what is put leaves nodes behind, though its key was there already, and so does what is dropped, though its key is not there any more
	turns = slices.Repeat([]string{"put z", "ok"}, 80)
	checkTurns(t, append(turns, "put z", "full", "get z", "full", "drop z", "full", "keys", "z z")...)
	turns = slices.Repeat([]string{"put z", "ok", "drop z", "ok"}, 40)
	checkTurns(t, append(turns, "put z", "full", "get z", "full", "drop z", "full", "keys", "", "sort z", "sorted z")...)
	// a datum of as many nodes as may be
	most := ending("a", 40, "a1")
	checkTurns(t, "get "+most, "none", "put "+most, "ok", "get "+most, "full", "keys", most+" "+most)
	checkTurns(t, "put b", "ok", "put "+most, "full", "get b", "b", "drop b", "ok", "get "+most, "full", "sort "+most+" b", "fault 6 at 4")
	checkTurns(t, "get "+ending("a", 40, "b"), "fault 6 at 3")
	// what is kept may be the text ok, but only what is told of put and drop is
	checkTurns(t, append(slices.Concat([]string{"put ok", "ok"}, slices.Repeat([]string{"get ok", "ok"}, 100)), "put "+list, "ok", "get ok", "full")...)
}

func TestP14SessionSort(t *testing.T) {
	checkLine(t, "sort", "sorted")
	checkLine(t, "sort #;a ; b", "sorted")
	checkLine(t, "sort a", "sorted a")
	checkLine(t, "sort b a", "sorted a b")
	checkLine(t, "sort b a b a", "sorted a a b b")
	checkLine(t, "sort 2/4 .5 #b1 0", "sorted 0 1/2 1/2 1")
	checkLine(t, "sort #u8(1) #(a) (a) () #t #\\a \"a\" a 1", "sorted 1 a \"a\" #\\a #t () (a) #(a) #u8(1)")
	checkLine(t, "sort l k j i h g f e d c b a", "sorted a b c d e f g h i j k l")
	checkLine(t, "sort a l k j i h g f e d c b a", "fault 6 at 4")
	checkLine(t, "sort #0=(b . #0#) #0=(a . #0#) (a a) (#0=(b a . #0#) . #1=#(#1#))", "sorted (a a) #0=(a . #0#) #0=(b . #0#) (#0=(b a . #0#) . #1=#(#1#))")
	spent, fits := longRow("a", 19, 179), longRow("b", 19, 178)
	checkLine(t, "sort "+spent, "sorted too long")
	checkLine(t, "sort b "+spent+" a", "sorted a b too long")
	checkLine(t, "sort "+fits+" "+spent+" #() #u8()", "sorted #() too long "+longRowWritten("b", 19, 178)+" #u8()")
	checkLine(t, "sort "+spent+" "+spent, "sorted too long too long")
	checkTurns(t, "put b", "ok", "sort c a", "sorted a c", "keys", "b b", "get a", "none") // nothing is kept by it
}

func TestP14SessionKeys(t *testing.T) {
	checkTurns(t, "keys", "")
	checkTurns(t, "put a", "ok", "keys", "a a")
	checkTurns(t, "put b", "ok", "put a", "ok", "put (c)", "ok", "put 1", "ok", "keys", "b b, a a, (c) (c), 1 1")
	checkTurns(t, "put a", "ok", "put b", "ok", "put c", "ok", "drop b", "ok", "keys", "a a, c c", "put b", "ok", "keys", "a a, c c, b b", "drop a", "ok", "keys", "c c, b b", "drop b", "ok", "drop c", "ok", "keys", "", "put c", "ok", "keys", "c c")
	checkTurns(t, `put "a, b"`, "ok", `put "\n\t\x0;"`, "ok", "keys", `"a, b" "a, b", "\n\t\x0;" "\n\t\x0;"`)
	checkTurns(t, "put #1=(a #1# . b)", "ok", "put (#0=(x . #0#) #1=(y . #1#))", "ok", "keys", "#0=(a #0# . b) #0=(a #0# . b), (#0=(x . #0#) #1=(y . #1#)) (#0=(x . #0#) #1=(y . #1#))")
	checkTurns(t, "put none", "ok", "get none", "none", "put full", "ok", "put bad", "ok", "keys", "none none, full full, bad bad")
}

func TestP14SessionDrop(t *testing.T) {
	checkTurns(t, "drop a", "none", "put a", "ok", "drop a", "ok", "drop a", "none", "get a", "none", "put a", "ok", "get a", "a")
	checkTurns(t, "put a", "ok", "put (a)", "ok", "put ((a))", "ok", "drop (a)", "ok", "get a", "a", "get (a)", "none", "get ((a))", "((a))")
	checkTurns(t, "put (a b)", "ok", "drop (a)", "none", "drop (a b c)", "none", "drop (a . b)", "none", "drop #(a b)", "none", "get (a b)", "(a b)")
}

// TestP14SessionLongest has texts of as many bytes as may be, and of one more.
func TestP14SessionLongest(t *testing.T) {
	const most = impl.ReadMaxText
	checkTold(t, strings.Repeat("\n", most), strings.Repeat("bad\n", most))
	checkTold(t, "keys"+strings.Repeat(" ", most-4), "\n")
	checkTold(t, "put a\n"+strings.Repeat(" ", most-11)+"get a", "ok\na\n")
	checkTold(t, strings.Repeat("keys\n", most/5), strings.Repeat("\n", most/5))
	checkTold(t, strings.Repeat("\xff", most), "bad\n")
	for _, text := range []string{strings.Repeat("\n", most+1), "keys" + strings.Repeat(" ", most-3), "put a\n" + strings.Repeat(" ", most), strings.Repeat("\xff", most+1), strings.Repeat("keys\n", 200_000)} {
		checkTold(t, text, "too long\n")
	}
}

// sessionText makes lines of a session by chance, of data that come again often.
func (d *dice) sessionText() string {
	pool := []string{"3/2", "6/4", "a", "ok", "'a", "(quote a)", "#0=(a b . #0#)", "#1=(a b a b . #1#)", "\"é\"", longRow("a", 20, 1), longRow("b", 1, 1)}
	for range 4 {
		marks := 0
		pool = append(pool, d.datum(3, &marks))
	}
	symbols := []string{"put", "put", "put", "get", "get", "drop", "drop", "keys", "sort", "what", "#;x put", "(put)", ""}
	text := ""
	for range d.upTo(30) {
		line := symbols[d.upTo(len(symbols)-1)]
		for range []int{0, 1, 1, 1, 1, 1, 1, 2, 3}[d.upTo(8)] {
			line += " " + pool[d.upTo(len(pool)-1)]
		}
		if d.upTo(15) == 0 {
			line = d.bent(line)
		}
		if d.upTo(30) == 0 {
			line = d.chance(false)
		}
		text += line + "\n"
	}
	return text[:len(text)-d.upTo(min(1, len(text)))]
}

// TestP14SessionAnotherWay holds the answers to many texts against another way to answer.
func TestP14SessionAnotherWay(t *testing.T) {
	d := &dice{state: 143}
	kinds := map[string]int{}
	for range 1500 {
		text := d.sessionText()
		for _, line := range strings.Split(askTold(t, text), "\n") {
			kinds[strings.Split(line, " ")[0]]++
		}
		if t.Failed() {
			return // one text is enough to tell
		}
	}
	for kind, least := range map[string]int{"ok": 3000, "none": 1000, "full": 200, "bad": 2000, "sorted": 500, "fault": 500, "too": 20} {
		if kinds[kind] < least {
			t.Errorf("answers that begin with %s: %d", kind, kinds[kind])
		}
	}
}

// TestP14SessionAnyText has texts that are hardly lines of a session at all.
func TestP14SessionAnyText(t *testing.T) {
	d := &dice{state: 144}
	for i := range 1500 {
		askTold(t, d.chance(i%2 == 0))
		askTold(t, d.portText(20))
		if t.Failed() {
			return
		}
	}
}

// TestP14SessionsApart has many sessions at one time, and one behind the other: none knows of another.
func TestP14SessionsApart(t *testing.T) {
	checkTurns(t, "put a", "ok", "keys", "a a")
	checkTurns(t, "get a", "none", "keys", "")
	d := &dice{state: 145}
	texts, wants := []string{}, []string{}
	for range 60 {
		texts = append(texts, d.sessionText())
		wants = append(wants, otherTold(texts[len(texts)-1]))
	}
	var callers sync.WaitGroup
	for range 8 {
		callers.Go(func() {
			for i, text := range texts {
				if got := impl.TabSession(text); got != wants[i] {
					t.Errorf("%s: %s, not %s", short(text), short(got), short(wants[i]))
				}
			}
		})
	}
	callers.Wait()
}
