package tests

import (
	"math"
	"slices"
	"strings"
	"testing"

	"loop.example/sistab/impl"
)

// okNodes are some of each Sort, the Sorts in order.
func okNodes() []impl.ReadNode {
	all := []impl.ReadNode{}
	for sort := impl.ReadNumber; sort <= impl.ReadRaw; sort++ {
		for _, text := range texts[sort].right {
			all = append(all, node(sort, text, make([]int, kidCounts(sort)[0])...))
		}
	}
	return all
}

func TestP9EachTwoSorts(t *testing.T) {
	for _, x := range okNodes() {
		for _, y := range okNodes() {
			if x.Sort != y.Sort {
				checkCmp(t, data(x), data(y), sign(x.Sort-y.Sort))
			}
		}
	}
	checkRising(t, "9", "z", `"y"`, `#\x`, "#t", "()", "(a . a)", "#(1 1 1)", "#u8()")
	checkRising(t, "(9)", "(z)", `("y")`, `(#\x)`, "(#t)", "(())", "((a . a))", "(#(1 1 1))", "(#u8())")
}

func TestP9Numbers(t *testing.T) {
	long := nines(60)
	checkRising(t,
		"-"+long, "-"+long+"/2", "-100", "-20", "-10", "-9", "-3", "-2", "-3/2", "-1", "-2/3", "-1/2", "-1/3", "-1/"+long, "0",
		"1/"+long, "1/10", "1/9", "1/3", "1/2", "2/3", "1", "10/9", "3/2", "2", "5/2", "3", "9", "10", "20", "100", long+"/2", long)
	checkCmpTexts(t, "2", "10", -1)
	checkCmpTexts(t, "1/2", "-3", 1)
	checkCmpTexts(t, "-0", "0", 0)
	checkCmpTexts(t, "6/4", "1.5", 0)
	checkCmpTexts(t, long+"/"+nines(59)+"8", long+"/"+nines(59)+"7", -1)
	checkCmpTexts(t, "(2)", "(10)", -1)
	checkCmpTexts(t, "#(a 1/2)", "#(a -3)", 1)
}

// TestP9Texts has texts each of which is less than all behind it, in all Sorts that have such.
func TestP9Texts(t *testing.T) {
	rising := map[int][]string{
		impl.ReadSymbol: {"!", "+", "...", "A", "Z", "a", "a!", "a.b", "a1", "aa", "ab", "b", "quote", "z", "~", "\u0080", "é", "éa", "€", "\ufffd", "😀", "\U0010ffff"},
		impl.ReadString: {"", "\x00", "\x00\x00", "\n", " ", "10", "2", "A", "a", "a\x00", "aa", "ab", "b", "b" + strings.Repeat("a", 199), "\x7f", "\u0080", "é", "é ", "\ud7ff", "\ue000", "\ufffd", "😀"},
		impl.ReadChar:   {"\x00", "\t", " ", "0", "A", "a", "\x7f", "\u0080", "é", "\u07ff", "\u0800", "\ufffd", "\U00010000", "\U0010ffff"},
		impl.ReadBool:   {"f", "t"},
		impl.ReadRaw:    {"", "\x00", "\x00\x00", "\x01", "1 2", "a", "\x7f", "\x7f\xff", "\x80", "\x80\x00", "\xed\xa0\x80", "\xfe\xff", "\xff", "\xff\x00", "\xff\xff", strings.Repeat("\xff", 199), strings.Repeat("\xff", 200)},
	}
	for sort, list := range rising {
		bare, within := []impl.ReadData{}, []impl.ReadData{}
		for _, text := range list {
			bare = append(bare, data(node(sort, text)))
			within = append(within, data(node(impl.ReadRow, "", 1, 2, 2), node(impl.ReadNil, ""), node(sort, text)))
		}
		checkRisingData(t, bare...)
		checkRisingData(t, within...)
	}
}

// TestP9KidsByNumber has vectors: how many parts they have comes ahead of what these are.
func TestP9KidsByNumber(t *testing.T) {
	checkRising(t, "#()", "#(1)", "#(2)", "#(z)", "#(())", "#(#(9 9 9))", "#(0 0)", "#(0 1)", "#(1 0)", "#(0 0 0)", "#("+names("a", 39)+")", "#("+strings.Repeat("0 ", 40)+")", "#("+strings.Repeat("0 ", 39)+"1)", "#(1 "+strings.Repeat("0 ", 39)+")")
	checkRising(t, "#(#(9) 9)", "#(#(0 0) 0)")
	checkRising(t, "(a #(9))", "(a #(0 0))")
	checkRising(t, "#(#(0) #(0 0))", "#(#(1) #(0 0))", "#(#(0) #(0 0 0))", "#(#(0 0) #(0))") // one level down the number of parts of both comes first
}

func TestP9LevelByLevel(t *testing.T) {
	checkCmpTexts(t, "(1 (9))", "(1 2)", 1)
	checkCmpTexts(t, "(1 2 9)", "(1 3)", -1)
	checkCmpTexts(t, "#((((1))) 3)", "#((((2))) 2)", 1)
	checkCmpTexts(t, "((((1))) . b)", "((((2))) . a)", 1)
	checkCmpTexts(t, "#(#(#(#(9))) #(1) 1)", "#(#(#(#(8))) #(2) 1)", -1)
	checkCmpTexts(t, "#(#(#(#(9))) #(1) 2)", "#(#(#(#(8))) #(2) 1)", 1)
	checkCmpTexts(t, "#(#(1) #(2))", "#(#(2) #(1))", -1)
	checkCmpTexts(t, "#(#(1 3) #(2))", "#(#(1 2) #(3))", 1)
	checkCmpTexts(t, "((a) b)", "((b) a)", -1)
	checkCmpTexts(t, "(a b c d)", "(a b d c)", -1)
	checkCmpTexts(t, "(a b c)", "(a b c d)", -1) // () against a pair
	checkCmpTexts(t, "(a b . c)", "(a b)", -1)
	checkCmpTexts(t, "(z)", "(a b)", 1) // what they begin with, and that one ends, are on one level: the first is ahead
	checkCmpTexts(t, "(a)", "(a b)", -1)
	checkCmpTexts(t, "(#(#(b)))", "(#(#(a)) a)", -1)
}

func TestP9GoingAround(t *testing.T) {
	checkCmpTexts(t, "#0=(a . #0#)", "(a a . #0=(a . #0#))", 0)
	checkCmpTexts(t, "#0=(a b . #0#)", "(a . #0=(b a . #0#))", 0)
	checkCmpTexts(t, "#0=(a b a b . #0#)", "#0=(a b a b a b . #0#)", 0)
	checkCmpTexts(t, "#0=(a b a b . #0#)", "#0=(a b a . #0#)", 1)
	checkCmpTexts(t, "#0=(a . #0#)", "(a a a a)", 1)
	checkCmpTexts(t, "#0=(a . #0#)", "(a a a a b . #0=(a . #0#))", -1)
	checkCmpTexts(t, "#0=#(#0# #0#)", "#0=#(#(#0# #0#) #(#0# #(#0# #0#)))", 0)
	checkCmpTexts(t, "#0=#(#0# #0#)", "#0=#(#(#0# #0#) #(#0# #(#0# a)))", 1)
	checkCmpTexts(t, "#0=(#0# . #0#)", "#0=((#0# . #0#) . #0#)", 0)
	for first := 1; first <= 12; first++ {
		for second := 1; second <= 12; second++ {
			checkCmp(t, around(first, -1), around(second, -1), 0)
			checkCmp(t, around(first, first-1), around(second, second-1), sign(second-first))
			checkCmp(t, around(first, first-1), around(second, -1), 1)
		}
	}
	checkCmp(t, around(78, -1), around(77, -1), 0)
	checkCmp(t, around(78, 77), around(77, -1), 1)
	checkCmp(t, around(78, 77), around(77, 76), -1)
	checkCmp(t, around(78, 77), around(78, 76), -1)
	checkCmp(t, around(78, 77), around(78, 77), 0)
	checkCmp(t, around(78, 77), around(39, 38), -1)
}

// TestP9FarDown has two that differ in one node alone, in one far down, or in the last of many.
func TestP9FarDown(t *testing.T) {
	for _, x := range okNodes() {
		for _, y := range okNodes() {
			want := otherLooks(x, y)
			checkCmp(t, data(x), data(y), want)
			if len(x.Text)+len(y.Text) < 5 {
				checkCmp(t, lastOf(x), lastOf(y), want)
			}
			if len(x.Text)+len(y.Text) < 2 {
				checkCmp(t, farDown(x), farDown(y), want)
			}
		}
	}
}

// TestP9PairsComeAgain has two in which the same pair of nodes comes to be compared again, while it is still to be compared and when it was.
func TestP9PairsComeAgain(t *testing.T) {
	checkCmpTexts(t, "#(#0=(1) (3) #0#)", "#(#0=(2) (2) #0#)", -1) // where it came first it waits
	checkCmpTexts(t, "#(#0=(1) #1=(3) #0# #0# #1#)", "#(#0=(2) #1=(2) #0# #0# #1#)", -1)
	checkCmpTexts(t, "#(#0=(1) #0# (3))", "#(#0=(2) #0# (2))", -1)
	checkCmpTexts(t, "#(#0=(1) #0# (3))", "#(#0=(1) #0# (2))", 1) // what is behind it is compared all the same
	checkCmpTexts(t, "#(#0=(1) #0# (3) 4)", "#(#0=(1) #0# (2) 5)", -1)
	checkCmpTexts(t, "#(#(#0=(1) 1) #(#0# 3))", "#(#(#0=(2) 1) #(#0# 2))", 1) // the 3 is one level above the 1
	checkCmpTexts(t, "#(#(#0=(1) 1) #(#0# (3)))", "#(#(#0=(2) 1) #(#0# (2)))", -1)
	checkCmpTexts(t, "(#0=#(1) . #(#1=#(5) #0# #0# #1#))", "(#0=#(1) . #(#1=#(4) #0# #0# #1#))", 1)
	checkCmpTexts(t, "#(#0=(1) #0#)", "#((1) (2))", -1) // one node against two
	checkCmpTexts(t, "#((1) (2))", "#(#0=(1) #0#)", 1)
	checkCmpTexts(t, "#(#0=(1) #0# #0#)", "#(#0=(1) #0# (2))", -1)
	checkCmpTexts(t, "#0=(1 . #0#)", "#0=(1 1 1 2 . #0#)", -1)
	checkCmpTexts(t, "#0=#(#0# 1 #1=#(#0# #1# 3))", "#0=#(#0# 1 #1=#(#0# #1# 2))", 1)
	a := data(node(impl.ReadRow, "", 1, 2), node(impl.ReadSymbol, "p"), node(impl.ReadSymbol, "q"))
	b := data(node(impl.ReadRow, "", 2, 1), node(impl.ReadSymbol, "r"), node(impl.ReadSymbol, "p"))
	checkCmp(t, a, b, -1) // the places 1 and 2 are not 2 and 1
	c := data(node(impl.ReadRow, "", 1, 2, 3), node(impl.ReadNil, ""), node(impl.ReadRow, "", 1), node(impl.ReadRow, "", 2))
	e := data(node(impl.ReadRow, "", 1, 2, 3), node(impl.ReadNil, ""), node(impl.ReadRow, "", 1), node(impl.ReadRow, "", 3))
	checkCmp(t, c, e, -1)
}

// TestP9WideAndAround has data of which each pair comes to be compared by very many ways.
func TestP9WideAndAround(t *testing.T) {
	wide := func(seed int, last impl.ReadNode) impl.ReadData {
		d := impl.ReadData{Roots: []int{0}}
		for i := range 79 {
			row := node(impl.ReadRow, "")
			for k := range 40 {
				row.Kids = append(row.Kids, (i*seed+k*(seed+2))%79)
			}
			d.Nodes = append(d.Nodes, row)
		}
		d.Nodes[78].Kids[39] = 79
		d.Nodes = append(d.Nodes, last)
		return d
	}
	a, b := node(impl.ReadSymbol, "a"), node(impl.ReadSymbol, "b")
	checkCmp(t, wide(1, a), wide(1, a), 0)
	checkCmp(t, wide(1, a), wide(1, b), -1)
	checkCmp(t, wide(3, b), wide(3, a), 1)
	askCmp(t, wide(1, a), wide(3, a))
	askCmp(t, wide(5, b), wide(3, a))
}

// TestP9FirstRoots has data of several roots: the first alone is compared.
func TestP9FirstRoots(t *testing.T) {
	nodes := []impl.ReadNode{node(impl.ReadSymbol, "a"), node(impl.ReadSymbol, "b"), node(impl.ReadSymbol, "a")}
	of := func(roots ...int) impl.ReadData { return impl.ReadData{Nodes: nodes, Roots: roots} }
	checkCmp(t, of(0), of(0, 1), 0)
	checkCmp(t, of(0, 0), of(2, 1, 1), 0)
	checkCmp(t, of(0, 1), of(1, 0), -1)
	checkCmp(t, of(1), of(2, 1), 1)
	checkCmp(t, of(1, 0, 0, 0, 0, 0, 0, 0, 0, 0, 0, 0), of(0), 1)
	checkCmpTexts(t, "1 9", "1 8", 0)
	checkCmpTexts(t, "1 9", "2 8", -1)
}

func TestP9NoRoots(t *testing.T) {
	a, end := data(node(impl.ReadSymbol, "a")), node(impl.ReadNil, "")
	for _, none := range []impl.ReadData{{}, {Nodes: []impl.ReadNode{end}}, {Nodes: []impl.ReadNode{end}, Roots: []int{}}} {
		for _, other := range []impl.ReadData{a, data(end), none, {}} {
			checkCmp(t, none, other, 0)
		}
		checkNoHash(t, none, hashBounds...)
	}
}

func TestP9NotOk(t *testing.T) {
	good, less := data(node(impl.ReadSymbol, "a")), data(node(impl.ReadNumber, "-5"))
	for name, d := range notOkData() {
		if impl.ReadOk(d) {
			t.Errorf("%s is ok", name)
		}
		for _, other := range []impl.ReadData{d, good, less, {}} {
			checkCmp(t, d, other, 0)
		}
		checkNoHash(t, d, hashBounds...)
	}
}

// TestP9AnyThree holds all of three data against each other: of each Sort, and all of two nodes.
func TestP9AnyThree(t *testing.T) {
	all := []impl.ReadData{}
	for _, n := range okNodes() {
		all = append(all, data(n))
	}
	checkOrder(t, all)
	all = nil
	everySmallGraph(2, func(d impl.ReadData) { all = append(all, copied(d)) })
	checkOrder(t, all)
}

// TestP9AnyThreeByChance holds all of three data against each other, many of them nearly the same.
func TestP9AnyThreeByChance(t *testing.T) {
	d := &dice{state: 81}
	for range 25 {
		all := []impl.ReadData{}
		for len(all) < 24 {
			g := d.anyData(d.upTo(11) + 1)
			if d.upTo(1) == 0 {
				g = d.graph(d.upTo(19) + 1)
			}
			g.Roots = append(g.Roots, 0)
			all = append(all, g, d.disguised(g), d.bentData(copied(g)), d.bentData(d.disguised(g)))
		}
		checkOrder(t, slices.DeleteFunc(all, func(g impl.ReadData) bool { return len(g.Roots) == 0 }))
		if t.Failed() {
			return // some graphs are enough to tell
		}
	}
}

// TestP9Unrolled holds the order against trees of which no pair is left out.
func TestP9Unrolled(t *testing.T) {
	all := []impl.ReadData{}
	everySmallGraph(2, func(d impl.ReadData) { all = append(all, copied(d)) })
	for _, a := range all {
		for _, b := range all {
			checkCmp(t, a, b, unrolledCmp(a, b, 4))
		}
	}
	all = nil
	everySmallGraph(3, func(d impl.ReadData) { all = append(all, copied(d)) })
	d := &dice{state: 83}
	for range 4000 {
		a := all[d.upTo(len(all)-1)]
		b := d.bentData(copied(a))
		if d.upTo(1) == 0 {
			b = all[d.upTo(len(all)-1)]
		}
		if len(b.Roots) > 0 {
			checkCmp(t, a, b, unrolledCmp(a, b, 6))
		}
	}
}

func TestP10Sorts(t *testing.T) {
	checkSortTexts(t, "3 1 2 (b) (a) 1", "1 | 1 | 2 | 3 | (a) | (b)")
	checkSortTexts(t, `10 2 1/2 "b" a () (1 3) (1 2 9) -5 #t`, `-5 | 1/2 | 2 | 10 | a | "b" | #t | () | (1 2 9) | (1 3)`)
	checkSortTexts(t, `#u8(1) #(1) (1) () #f #\a "a" a 1`, `1 | a | "a" | #\a | #f | () | (1) | #(1) | #u8(1)`)
	checkSortTexts(t, "#(0 0) #(9) #()", "#() | #(9) | #(0 0)")
	checkSortTexts(t, "b a", "a | b")
	checkSortTexts(t, "a b", "a | b")
	checkSortTexts(t, "c b a", "a | b | c")
	checkSortTexts(t, "#0=(b . #0#) #0=(a b . #0#) (b b . #0=(b . #0#)) #0=(a . #0#)", "#0=(a . #0#) | #0=(a b . #0#) | #0=(b . #0#) | #0=(b . #0#)")
	checkSortTexts(t, "(1 (9)) (1 2) #((((1))) 3) #((((2))) 2)", "(1 2) | (1 (9)) | #((((2))) 2) | #((((1))) 3)")
}

func TestP10FewAndMany(t *testing.T) {
	checkSortTexts(t, "", "")
	checkSortTexts(t, "a", "a")
	checkSortTexts(t, "12 11 10 9 8 7 6 5 4 3 2 1", "1 | 2 | 3 | 4 | 5 | 6 | 7 | 8 | 9 | 10 | 11 | 12")
	checkSortTexts(t, "1 2 3 4 5 6 7 8 9 10 11 12", "1 | 2 | 3 | 4 | 5 | 6 | 7 | 8 | 9 | 10 | 11 | 12")
	checkSortTexts(t, "2 1 2 1 2 1 2 1 2 1 2 1", "1 | 1 | 1 | 1 | 1 | 1 | 2 | 2 | 2 | 2 | 2 | 2")
	checkSortTexts(t, "a a a a a a a a a a a a", strings.Repeat("a | ", 11)+"a")
	checkSort(t, impl.ReadData{})
	checkSort(t, impl.ReadData{Nodes: []impl.ReadNode{node(impl.ReadSymbol, "a"), node(impl.ReadPair, "", 0, 1)}})
}

// checkRoots has Nodes, the Roots and what TabSort makes of these, by their places.
func checkRoots(t *testing.T, nodes []impl.ReadNode, roots []int, want []int) {
	t.Helper()
	if got := checkSort(t, impl.ReadData{Nodes: nodes, Roots: roots}); !slices.Equal(got, want) {
		t.Errorf("%v with the Roots %v: sorted %v, not %v", nodes, roots, got, want)
	}
}

// TestP10TheSameStay has Roots that are other nodes but the same data: these stay in their order.
func TestP10TheSameStay(t *testing.T) {
	a, b, c := node(impl.ReadSymbol, "a"), node(impl.ReadSymbol, "b"), node(impl.ReadSymbol, "c")
	nodes := []impl.ReadNode{a, b, a, b, a, c, b, a}
	checkRoots(t, nodes, []int{7, 4, 2, 0}, []int{7, 4, 2, 0})
	checkRoots(t, nodes, []int{0, 2, 4, 7}, []int{0, 2, 4, 7})
	checkRoots(t, nodes, []int{2, 7, 0, 4}, []int{2, 7, 0, 4})
	checkRoots(t, nodes, []int{6, 4, 1, 0, 3, 2}, []int{4, 0, 2, 6, 1, 3})
	checkRoots(t, nodes, []int{5, 6, 7, 5, 3, 4, 1, 2, 0}, []int{7, 4, 2, 0, 6, 3, 1, 5, 5})
	checkRoots(t, nodes, []int{0, 1, 2, 3, 4, 5, 6, 7}, []int{0, 2, 4, 7, 1, 3, 6, 5})
	checkRoots(t, nodes, []int{3, 3, 1, 3, 0, 3}, []int{0, 3, 3, 1, 3, 3}) // the same node several times
	checkRoots(t, nodes, []int{6, 1, 6, 1, 6, 1, 6, 1, 6, 1, 6, 1}, []int{6, 1, 6, 1, 6, 1, 6, 1, 6, 1, 6, 1})
	lists := []impl.ReadNode{a, node(impl.ReadPair, "", 0, 1), node(impl.ReadPair, "", 0, 3), node(impl.ReadPair, "", 4, 2), a, node(impl.ReadPair, "", 0, 0)}
	checkRoots(t, lists, []int{3, 1, 2, 5, 4, 0, 1}, []int{4, 0, 5, 3, 1, 2, 1})
	ends := []impl.ReadNode{node(impl.ReadRow, ""), node(impl.ReadNil, ""), node(impl.ReadRow, ""), node(impl.ReadNil, ""), node(impl.ReadRaw, "")}
	checkRoots(t, ends, []int{4, 2, 3, 0, 1}, []int{3, 1, 2, 0, 4})
}

// TestP10NodesStay has Nodes that no root comes to, and others that are the same: all stay, each at its place.
func TestP10NodesStay(t *testing.T) {
	a, b := node(impl.ReadSymbol, "a"), node(impl.ReadSymbol, "b")
	checkRoots(t, []impl.ReadNode{b, node(impl.ReadRow, "", 2, 1), a, a, b}, []int{4, 3}, []int{3, 4})
	checkRoots(t, []impl.ReadNode{b, node(impl.ReadRow, "", 2, 1), a, a, b}, []int{3}, []int{3})
	checkRoots(t, []impl.ReadNode{b, node(impl.ReadRow, "", 2, 1), a, a, b}, nil, nil)
	nodes := []impl.ReadNode{}
	for i := range 80 {
		nodes = append(nodes, node(impl.ReadPair, "", 79-i, i))
	}
	nodes[40], nodes[41] = a, b
	checkSort(t, impl.ReadData{Nodes: nodes, Roots: []int{41, 40, 0, 79, 1, 78, 2, 77, 3, 76, 4, 75}})
}

func TestP10NotOk(t *testing.T) {
	for name, d := range notOkData() {
		withData(t, d, func(d impl.ReadData) {
			if got := impl.TabSort(d); !isNothing(got) {
				t.Errorf("%s: sorted %v", name, got)
			}
		})
	}
}

// TestP10SortsByChance has many data of up to 12 roots, many of which are the same by other nodes.
func TestP10SortsByChance(t *testing.T) {
	d := &dice{state: 85}
	for i := range 2500 {
		g := d.anyData(d.upTo(11) + 1)
		if i%3 == 0 {
			g = d.graph(d.upTo(11) + 1)
		}
		if i%2 == 0 {
			g = d.disguised(g)
		}
		for len(g.Roots) < i%13 {
			g.Roots = append(g.Roots, d.upTo(len(g.Nodes)-1))
		}
		checkSort(t, g)
		if t.Failed() {
			return // one graph is enough to tell
		}
	}
}

// TestP10HashByHand has numbers that were worked out by hand.
func TestP10HashByHand(t *testing.T) {
	checkHashIs(t, "1", 266)                      // 7 times 1 is 7; 31 times 7 and 49
	checkHashIs(t, "a", 531)                      // 7 times 2 is 14; 31 times 14 and 97
	checkHashIs(t, "b", 532)                      // 31 times 14 and 98
	checkHashIs(t, "abc", 54781)                  // 531; 16559; 513428 less 7 times 65521
	checkHashIs(t, "é", 19668)                    // 14; 31 times 14 and 195, 629; 31 times 629 and 169
	checkHashIs(t, `""`, 21)                      // 7 times 3, no bytes
	checkHashIs(t, `"é"`, 26395)                  // 21; 846; 31 times 846 and 169
	checkHashIs(t, `#\a`, 965)                    // 28; 31 times 28 and 97
	checkHashIs(t, "#t", 1201)                    // 35; 31 times 35 and 116
	checkHashIs(t, "()", 42)                      // 7 times 6
	checkHashIs(t, "#()", 56)                     // 7 times 8, no Kids
	checkHashIs(t, "#u8()", 63)                   // 7 times 9, no bytes
	checkHashIs(t, "#u8(255)", 2208)              // 31 times 63 and 255
	checkHashIs(t, "#(())", 14691)                // 56 and 1; 257 times 57 and 42
	checkHashIs(t, "(a . b)", 32885)              // 49 and 2; 257 times 51 and 531, 13638; 257 times 13638 and 532, less 53 times 65521
	checkHashIs(t, "(a)", 32395)                  // the same, but 42 for 532
	checkHashIs(t, "#0=(a . #0#)", 31589)         // down to the depths 0 to 3: 51, 32404, 64757, 31589
	checkHashIs(t, "(a a . #0=(a . #0#))", 31589) // the same data
	checkHashIs(t, "a b", 531)                    // the first root alone
	checkHashIs(t, "b a", 532)                    // the first root alone
}

func TestP10HashOfEachSort(t *testing.T) {
	for _, n := range okNodes() {
		checkHash(t, data(n))
		checkHash(t, farDown(n))
		checkHash(t, lastOf(n))
	}
}

// rowsAround is a node, so many Kids below the root: each level a vector of symbols around the next one.
func rowsAround(deep int, last impl.ReadNode) impl.ReadData {
	d := impl.ReadData{Roots: []int{0}}
	for i := range deep {
		d.Nodes = append(d.Nodes, node(impl.ReadRow, "", deep+1, i+1, deep+1))
	}
	d.Nodes = append(d.Nodes, last, node(impl.ReadSymbol, "a"))
	return d
}

// TestP10HashDepth has data that differ so many Kids below the root: down to three it shows.
func TestP10HashDepth(t *testing.T) {
	apart := func(a impl.ReadData, b impl.ReadData, want bool) {
		t.Helper()
		checkHash(t, a)
		checkHash(t, b)
		if x, y := impl.TabHash(a, math.MaxInt), impl.TabHash(b, math.MaxInt); (x != y) != want {
			t.Errorf("%v and %v: %d and %d", a, b, x, y)
		}
	}
	for deep := range 8 {
		shows := deep <= 3
		apart(rowsAround(deep, node(impl.ReadSymbol, "a")), rowsAround(deep, node(impl.ReadSymbol, "b")), shows)
		apart(rowsAround(deep, node(impl.ReadSymbol, "a")), rowsAround(deep, node(impl.ReadString, "a")), shows)
		apart(rowsAround(deep, node(impl.ReadRow, "")), rowsAround(deep, node(impl.ReadRow, "", deep)), shows)
		apart(rowsAround(deep, node(impl.ReadRow, "")), rowsAround(deep, node(impl.ReadNil, "")), shows)
		apart(rowsAround(deep, node(impl.ReadPair, "", deep, deep)), rowsAround(deep, node(impl.ReadRow, "", deep, deep)), shows)
	}
	apart(datumOf(t, "(a b c)"), datumOf(t, "(a b d)"), true)
	apart(datumOf(t, "(a b c d)"), datumOf(t, "(a b c e)"), false)
	apart(datumOf(t, "(a b c)"), datumOf(t, "(a b c d)"), true)
	apart(datumOf(t, "(a b c d)"), datumOf(t, "(a b c d e)"), false)
}

// TestP10HashOfWideData has data that are come to by very many ways.
func TestP10HashOfWideData(t *testing.T) {
	checkHash(t, data(node(impl.ReadRow, "", make([]int, 40)...)))
	checkHash(t, data(node(impl.ReadPair, "", 0, 0)))
	wide := impl.ReadData{Roots: []int{5}}
	for i := range 79 {
		row := node(impl.ReadRow, "")
		for k := range i % 41 {
			row.Kids = append(row.Kids, (i*k+3)%80)
		}
		wide.Nodes = append(wide.Nodes, row)
	}
	wide.Nodes = append(wide.Nodes, node(impl.ReadString, strings.Repeat("\u00ff", 100)))
	for _, wide.Roots[0] = range []int{0, 1, 2, 39, 40, 78, 79} {
		checkHash(t, wide)
	}
}

// TestP10HashByChance has many data: TabHash is below its bound, and as the document words it.
func TestP10HashByChance(t *testing.T) {
	d := &dice{state: 87}
	for range 1500 {
		g := d.anyData(d.upTo(30) + 1)
		g.Roots = append(g.Roots, d.upTo(len(g.Nodes)-1))
		checkHash(t, g)
		if most := d.upTo(70000) + 1; impl.TabHash(g, most) != otherHash(g, g.Roots[0], 3)%most {
			t.Errorf("%v: %d below %d", g, impl.TabHash(g, most), most)
		}
		if t.Failed() {
			return // one graph is enough to tell
		}
	}
}
