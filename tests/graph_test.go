package tests

import (
	"math"
	"slices"
	"strings"
	"testing"

	"loop.example/sistab/impl"
)

// data makes data of nodes, with the first one told.
func data(nodes ...impl.ReadNode) impl.ReadData {
	return impl.ReadData{Nodes: nodes, Roots: []int{0}}
}

func node(sort int, text string, kids ...int) impl.ReadNode {
	return impl.ReadNode{Sort: sort, Text: text, Kids: kids}
}

// checkOk asks whether data are ok, and looks whether they stay as they are.
func checkOk(t *testing.T, d impl.ReadData, want bool) {
	t.Helper()
	kept := copied(d)
	if got := impl.ReadOk(d); got != want {
		t.Errorf("%v: ok %v", d, got)
	}
	if !equal(d, kept) {
		t.Errorf("%v was made %v", kept, d)
	}
}

// texts are some of each Sort, and some that are not of it.
var texts = map[int]struct{ right, wrong []string }{
	impl.ReadNumber: {
		[]string{"0", "1", "-1", "10", "3/2", "-3/2", "1/3", nines(60), "-" + nines(60) + "/1" + noughts(59)},
		[]string{"", "+1", "01", "-0", "00", "1/1", "2/4", "6/3", "0/1", "1/0", "1/-2", "1.5", ".5", "5.", "1.0", "#xff", "ff", "a", "-", "--1", " 1", "1 ", "1\n", "1(", "1a", "1/2/3", nines(61), noughts(240) + "1", "１"},
	},
	impl.ReadSymbol: {
		[]string{"a", "quote", "+", "-", "...", "..", ".a", "a.b", "+a", "-1x", "-/2", "+1/0", "a#", "a,b", "a`b", "a1", "é", "\ufffd", "nil", "[", "{}", "t", "@a", "\u00a0", "-" + nines(61), strings.Repeat("a", 200), strings.Repeat("é", 100)},
		[]string{"", ".", "1", "1a", "-1", "+1", "-0", ".5", "5.", "+.5", "1/2", "-1/2", "#t", "#", "#a", ",", ",a", ",@a", "`a", "'a", "a'", "a b", " a", "a ", "a\n", "\t", "a\r", "(", "a)", "()", "\"a\"", "a;", ";a", "a|", "|a|", `\a`, `a\`, "a\x00", "\x1f", "\x7f", "a\x7f", "\xff", "a\xc3", "\xed\xa0\x80", "\xc0\x80", strings.Repeat("a", 201), strings.Repeat("é", 101), strings.Repeat("é", 100) + "a"},
	},
	impl.ReadString: {
		[]string{"", "a", "\x00", "\n\t\r", "\x7f", "a b", "()\";'#|\\", "é€😀", "\ufffd", "\U0010ffff", "1", strings.Repeat("a", 200), strings.Repeat("é", 100)},
		[]string{"\xff", "a\x80", "\xc3", "\xc0\x80", "\xed\xa0\x80", "\xf4\x90\x80\x80", strings.Repeat("a", 201), strings.Repeat("é", 100) + "a", strings.Repeat("a", 199) + "é"},
	},
	impl.ReadChar: {
		[]string{"a", " ", "\n", "\x00", "\x7f", "(", `\`, "é", "€", "😀", "\ufffd", "\U0010ffff", "\ud7ff", "\ue000"},
		[]string{"", "ab", "aa", "éa", "e\u0301", "space", "x41", "\xff", "\x80", "\xc3", "\xc3\xa9\xa9", "\xed\xa0\x80", "\xc0\x80", "\xf4\x90\x80\x80", "a\xff"},
	},
	impl.ReadBool: {
		[]string{"t", "f"},
		[]string{"", "#t", "#f", "true", "false", "T", "F", "tt", "tf", "t ", "n"},
	},
	impl.ReadNil:  {[]string{""}, []string{"a", "()", " ", "\x00"}},
	impl.ReadPair: {[]string{""}, []string{"a", "()", " ", "\x00"}},
	impl.ReadRow:  {[]string{""}, []string{"a", "()", " ", "\x00"}},
	impl.ReadRaw: {
		[]string{"", "a", "\x00", "\xff\x80", "\xed\xa0\x80", "1 2", strings.Repeat("\xff", 200)},
		[]string{strings.Repeat("\xff", 201), strings.Repeat("a", 201), strings.Repeat("é", 101), strings.Repeat("a", 100_000)},
	},
}

// kidCounts are how many Kids a node of a Sort may have, of those that are tried.
func kidCounts(sort int) []int {
	switch sort {
	case impl.ReadPair:
		return []int{2}
	case impl.ReadRow:
		return []int{0, 1, 2, 3, 39, 40}
	}
	return []int{0}
}

func TestP7OkTexts(t *testing.T) {
	for sort, of := range texts {
		kids := make([]int, kidCounts(sort)[0])
		for _, text := range of.right {
			checkOk(t, data(node(sort, text, kids...)), true)
			checkOk(t, data(node(impl.ReadNil, ""), node(sort, text, kids...)), true)
		}
		for _, text := range of.wrong {
			checkOk(t, data(node(sort, text, kids...)), false)
			checkOk(t, data(node(impl.ReadNil, ""), node(sort, text, kids...)), false) // what is come to from no root counts, too
		}
	}
}

func TestP7OkKids(t *testing.T) {
	for sort, of := range texts {
		for _, count := range []int{0, 1, 2, 3, 39, 40, 41, 80, 1000} {
			checkOk(t, data(node(sort, of.right[0], make([]int, count)...)), slices.Contains(kidCounts(sort), count))
		}
	}
}

func TestP7OkSorts(t *testing.T) {
	for _, sort := range []int{0, -1, 10, 11, 100, math.MinInt, math.MaxInt, 1 << 32, 1<<32 + 6} {
		for _, text := range []string{"", "a", "1", "t"} {
			checkOk(t, data(node(sort, text)), false)
			checkOk(t, data(node(sort, text, 0, 0)), false)
			checkOk(t, data(node(impl.ReadNil, ""), node(sort, text)), false)
		}
	}
	checkOk(t, data(impl.ReadNode{}), false)
}

func TestP7OkPlaces(t *testing.T) {
	end := node(impl.ReadNil, "")
	for _, place := range []int{-1, -2, 3, 4, 80, math.MinInt, math.MaxInt} {
		for i := range 2 {
			kids := []int{0, 0}
			kids[i] = place
			checkOk(t, data(node(impl.ReadPair, "", kids...), end, end), false)
			checkOk(t, data(end, end, node(impl.ReadRow, "", kids...)), false)
			checkOk(t, impl.ReadData{Nodes: []impl.ReadNode{end, end, end}, Roots: kids}, false)
		}
	}
	for place := range 3 {
		checkOk(t, data(node(impl.ReadPair, "", place, place), end, end), true)
		checkOk(t, data(node(impl.ReadRow, "", 0, 1, 2, place), end, end), true)
		checkOk(t, impl.ReadData{Nodes: []impl.ReadNode{end, end, end}, Roots: []int{place, place}}, true)
	}
	checkOk(t, impl.ReadData{}, true)
	checkOk(t, impl.ReadData{Nodes: []impl.ReadNode{}, Roots: []int{}}, true)
	checkOk(t, impl.ReadData{Nodes: []impl.ReadNode{end}}, true)
	checkOk(t, impl.ReadData{Roots: []int{0}}, false)
	checkOk(t, impl.ReadData{Roots: []int{-1}}, false)
	checkOk(t, data(node(impl.ReadPair, "", 0, 0)), true)
}

func TestP7OkLimits(t *testing.T) {
	end := []impl.ReadNode{node(impl.ReadNil, "")}
	nodes := slices.Repeat(end, 100)
	for count, want := range map[int]bool{1: true, 79: true, 80: true, 81: false, 100: false} {
		checkOk(t, impl.ReadData{Nodes: nodes[:count], Roots: []int{0, count - 1}}, want)
		checkOk(t, impl.ReadData{Nodes: nodes[:count]}, want)
	}
	for count, want := range map[int]bool{0: true, 11: true, 12: true, 13: false, 1000: false} {
		checkOk(t, impl.ReadData{Nodes: end, Roots: make([]int, count)}, want)
	}
	checkOk(t, impl.ReadData{Roots: make([]int, 12)}, false)
	checkOk(t, impl.ReadData{Nodes: slices.Repeat(end, 1_000_000)}, false)
	all := slices.Repeat([]impl.ReadNode{node(impl.ReadRow, "", make([]int, 40)...)}, 80)
	checkOk(t, impl.ReadData{Nodes: all, Roots: make([]int, 12)}, true)
}
