package tests

import (
	"math"
	"slices"
	"strconv"
	"strings"
	"testing"

	"loop.example/sistab/impl"
)

// keyNodes are nodes of which some are one key, in one kind of tables or in both.
func keyNodes() []impl.ReadNode {
	return []impl.ReadNode{
		0:  node(impl.ReadSymbol, "a"),
		1:  node(impl.ReadNil, ""),
		2:  node(impl.ReadPair, "", 0, 1), // (a)
		3:  node(impl.ReadSymbol, "a"),
		4:  node(impl.ReadNil, ""),
		5:  node(impl.ReadPair, "", 3, 4), // (a)
		6:  node(impl.ReadRow, ""),
		7:  node(impl.ReadRow, ""),
		8:  node(impl.ReadRow, "", 2, 6), // #((a) #())
		9:  node(impl.ReadRow, "", 5, 7), // #((a) #())
		10: node(impl.ReadString, "a"),
		11: node(impl.ReadPair, "", 0, 11), // #0=(a . #0#)
		12: node(impl.ReadPair, "", 3, 13), // (a . #0=(a . #0#))
		13: node(impl.ReadPair, "", 0, 13), // #0=(a . #0#)
		14: node(impl.ReadRaw, ""),
		15: node(impl.ReadString, ""),
		16: node(impl.ReadPair, "", 1, 0), // (() . a)
		17: node(impl.ReadNumber, "1"),
		18: node(impl.ReadString, "1"),
	}
}

// checkOneKeys has the nodes of a list by groups: just those of one group are one key.
func checkOneKeys(t *testing.T, kind int, nodes []impl.ReadNode, groups [][]int) {
	t.Helper()
	for i, group := range groups {
		for _, key := range group {
			x := checkPuts(t, tableOf(kind, nodes), key, "kept", []int{key}, "kept")
			for k, other := range groups {
				for _, asked := range other {
					if at := findKey(t, x, asked); (at == 0) != (i == k) {
						t.Errorf("kind %d: %v is kept, and %v found at %d", kind, nodes[key], nodes[asked], at)
					}
				}
			}
		}
	}
}

func TestP11OneKey(t *testing.T) {
	checkOneKeys(t, impl.TabEqv, keyNodes(), [][]int{{0, 3}, {1, 4}, {2}, {5}, {6}, {7}, {8}, {9}, {10}, {11}, {12}, {13}, {14}, {15}, {16}, {17}, {18}})
	checkOneKeys(t, impl.TabEqual, keyNodes(), [][]int{{0, 3}, {1, 4}, {2, 5}, {6, 7}, {8, 9}, {10}, {11, 12, 13}, {14}, {15}, {16}, {17}, {18}})
}

// TestP11AtomsTwice has an atom of each Sort at two nodes: they are one key in either kind.
func TestP11AtomsTwice(t *testing.T) {
	for _, n := range okNodes() {
		nodes := []impl.ReadNode{n, node(impl.ReadSymbol, "other"), n}
		for _, kind := range tableKinds {
			x := checkPuts(t, tableOf(kind, nodes), 2, "first", []int{2}, "first")
			x = checkPuts(t, x, 1, "other", []int{2, 1}, "first", "other")
			if kind == impl.TabEqv && len(kidsOrRow(n)) > 0 {
				checkPuts(t, x, 0, "second", []int{2, 1, 0}, "first", "other", "second")
			} else {
				checkPuts(t, x, 0, "second", []int{2, 1}, "second", "other")
			}
		}
	}
}

// kidsOrRow is not empty just of a node that has parts, or could.
func kidsOrRow(n impl.ReadNode) []int {
	if n.Sort == impl.ReadRow {
		return []int{0}
	}
	return n.Kids
}

// TestP11KidsAlone has nodes that differ only by their Kids.
func TestP11KidsAlone(t *testing.T) {
	nodes := []impl.ReadNode{
		node(impl.ReadSymbol, "a"), node(impl.ReadSymbol, "b"),
		node(impl.ReadPair, "", 0, 0), node(impl.ReadPair, "", 0, 1), node(impl.ReadPair, "", 1, 0), node(impl.ReadPair, "", 1, 1),
		node(impl.ReadRow, ""), node(impl.ReadRow, "", 0), node(impl.ReadRow, "", 1), node(impl.ReadRow, "", 0, 0), node(impl.ReadRow, "", 0, 1),
	}
	for _, kind := range tableKinds {
		x, keys, vals := tableOf(kind, nodes), []int{}, []string{}
		for key := range nodes {
			keys, vals = append(keys, key), append(vals, "v"+strconv.Itoa(key))
			x = checkPuts(t, x, key, vals[key], keys, vals...)
		}
		for key := range nodes {
			if at := findKey(t, x, key); at != key {
				t.Errorf("kind %d: %v is found at %d", kind, nodes[key], at)
			}
		}
	}
}

// TestP11KeptAgain has a key that is kept again: the text changes, the key and its place stay.
func TestP11KeptAgain(t *testing.T) {
	x := tableOf(impl.TabEqual, keyNodes(), 5, 0, 12, 7)
	y := checkPuts(t, x, 2, "again", []int{5, 0, 12, 7}, "again", "v1", "v2", "v3")
	y = checkPuts(t, y, 3, "a", []int{5, 0, 12, 7}, "again", "a", "v2", "v3")
	y = checkPuts(t, y, 11, "", []int{5, 0, 12, 7}, "again", "a", "", "v3")
	y = checkPuts(t, y, 6, "v3", []int{5, 0, 12, 7}, "again", "a", "", "v3")
	y = checkPuts(t, y, 5, "v0", []int{5, 0, 12, 7}, "v0", "a", "", "v3")
	checkPuts(t, y, 1, "last", []int{5, 0, 12, 7, 1}, "v0", "a", "", "v3", "last")
	x = tableOf(impl.TabEqv, keyNodes(), 5, 0, 12, 7)
	x = checkPuts(t, x, 2, "2", []int{5, 0, 12, 7, 2}, "v0", "v1", "v2", "v3", "2")
	x = checkPuts(t, x, 3, "3", []int{5, 0, 12, 7, 2}, "v0", "3", "v2", "v3", "2")
	x = checkPuts(t, x, 6, "6", []int{5, 0, 12, 7, 2, 6}, "v0", "3", "v2", "v3", "2", "6")
	checkPuts(t, x, 12, "12", []int{5, 0, 12, 7, 2, 6}, "v0", "3", "12", "v3", "2", "6")
}

// notVals are texts that may not be kept.
func notVals() []string {
	vals := []string{"\xff", "a\x80", "\xc3", "\xc0\x80", "\xed\xa0\x80", "\xf4\x90\x80\x80", strings.Repeat("a", 201), strings.Repeat("é", 101), strings.Repeat("😀", 51), strings.Repeat("a", 100_000)}
	for _, val := range longVals() {
		vals = append(vals, val+"b", val[1:]+"\xff", "b"+val)
	}
	return vals
}

func TestP11Vals(t *testing.T) {
	for _, kind := range tableKinds {
		x := tableOf(kind, keyNodes(), 0, 1)
		for _, val := range append(longVals(), "", " ", "a\nb", "\x00", "\x7f", "é€😀\ufffd\U0010ffff", "()\";'#|\\") {
			checkPuts(t, x, 3, val, []int{0, 1}, val, "v1")
			checkPuts(t, x, 2, val, []int{0, 1, 2}, "v0", "v1", val)
			kept := copiedTable(x)
			kept.Vals[1] = val
			checkTableOk(t, kept, true)
		}
		for _, val := range notVals() {
			checkNotPut(t, x, 3, val)
			checkNotPut(t, x, 2, val)
			bad := copiedTable(x)
			bad.Vals[1] = val
			checkNoTable(t, "a text that may not be kept", bad)
		}
	}
}

// numberedKeys is a table of so many keys, and nodes for some more, each number at two nodes.
func numberedKeys(kind int, count int) impl.TabTable {
	x := impl.TabTable{Kind: kind}
	for i := range 40 {
		x.Data.Nodes = append(x.Data.Nodes, node(impl.ReadNumber, strconv.Itoa(i%25)))
	}
	for i := range count {
		x.Keys, x.Vals = append(x.Keys, i), append(x.Vals, strconv.Itoa(i))
	}
	return x
}

func TestP11MostKeys(t *testing.T) {
	for _, kind := range tableKinds {
		for _, count := range []int{0, 1, 2, 18, 19, 20} {
			x := numberedKeys(kind, count)
			checkTableOk(t, x, true)
			if count < 20 {
				checkPuts(t, x, count, "new", append(slices.Clone(x.Keys), count), append(slices.Clone(x.Vals), "new")...)
			} else {
				checkNotPut(t, x, count, "new")
				checkNotPut(t, x, 24, "new")
			}
			for key := range count {
				vals := slices.Clone(x.Vals)
				vals[key] = "again"
				checkPuts(t, x, key, "again", x.Keys, vals...) // what is a key already has room
				if key < 15 {
					checkPuts(t, x, key+25, "again", x.Keys, vals...)
				}
			}
		}
		checkNoTable(t, "21 keys", numberedKeys(kind, 21))
		checkNoTable(t, "25 keys", numberedKeys(kind, 25))
	}
}

// oneHash are symbols that have one hash.
func oneHash() []impl.ReadNode {
	nodes := []impl.ReadNode{}
	for i := range 20 {
		text := ""
		for bit := range 5 {
			text += []string{"Aa", "BB"}[i>>bit&1]
		}
		nodes = append(nodes, node(impl.ReadSymbol, text))
	}
	return nodes
}

// TestP11OneHash has keys that have one hash and are not one key.
func TestP11OneHash(t *testing.T) {
	nodes := oneHash()
	deep := []impl.ReadNode{}
	for i := range 14 { // lists of four vectors one in the other: what is in the last does not show in the hash
		at := len(deep)
		deep = append(deep, node(impl.ReadRow, "", at+1), node(impl.ReadRow, "", at+2), node(impl.ReadRow, "", at+3), node(impl.ReadRow, "", at+4), node(impl.ReadNumber, strconv.Itoa(i/2)))
	}
	for _, kind := range tableKinds {
		x := tableOf(kind, append(slices.Clone(nodes), nodes...))
		for key, n := range nodes {
			if impl.TabHash(data(n), math.MaxInt) != impl.TabHash(data(nodes[0]), math.MaxInt) {
				t.Errorf("%v and %v have two hashes", n, nodes[0])
			}
			x, _ = putKey(t, x, key, n.Text)
		}
		for key := range 40 {
			if at := findKey(t, x, key); at != key%20 || x.Vals[at] != x.Data.Nodes[key].Text {
				t.Errorf("%v: %d is found at %d", x, key, at)
			}
		}
		x, _ = putKey(t, x, 27, "again")
		if len(x.Vals) != 20 || x.Vals[7] != "again" {
			t.Errorf("%v", x)
		}
		y := tableOf(kind, deep)
		for key := 0; key < len(deep); key += 5 {
			y, _ = putKey(t, y, key, strconv.Itoa(key))
		}
		if want := map[int]int{impl.TabEqv: 14, impl.TabEqual: 7}[kind]; len(y.Keys) != want {
			t.Errorf("%v has %d keys, not %d", y, len(y.Keys), want)
		}
	}
}

func TestP11NoNode(t *testing.T) {
	for _, kind := range tableKinds {
		for _, x := range []impl.TabTable{tableOf(kind, nil), tableOf(kind, keyNodes()), tableOf(kind, keyNodes(), 0, 18), numberedKeys(kind, 20)} {
			for _, node := range []int{-1, -2, math.MinInt, len(x.Data.Nodes), len(x.Data.Nodes) + 1, 99, math.MaxInt} {
				if at := findKey(t, x, node); at != -1 {
					t.Errorf("%v: %d is found at %d", x, node, at)
				}
				checkNotPut(t, x, node, "a")
				if out, ok := dropKey(t, x, node); ok || !isNoTable(out) {
					t.Errorf("%v: without %d it is %v %v", x, node, out, ok)
				}
			}
		}
	}
}

func TestP11Ok(t *testing.T) {
	for _, kind := range tableKinds {
		checkTableOk(t, tableOf(kind, nil), true)
		checkTableOk(t, impl.TabTable{Kind: kind, Data: impl.ReadData{Nodes: []impl.ReadNode{}, Roots: []int{}}, Keys: []int{}, Vals: []string{}}, true)
		checkTableOk(t, tableOf(kind, keyNodes()), true)
		checkTableOk(t, tableOf(kind, keyNodes(), 18, 0, 4, 2, 6, 9), true)
		checkTableOk(t, tableOf(kind, slices.Repeat(keyNodes()[:1], 80), 79), true)
		for _, n := range okNodes() {
			checkTableOk(t, tableOf(kind, []impl.ReadNode{n}, 0), true)
		}
		for _, two := range [][2]int{{0, 1}, {0, 10}, {10, 0}, {1, 6}, {14, 15}, {6, 14}, {2, 16}, {17, 18}, {2, 11}, {2, 8}} {
			checkTableOk(t, tableOf(kind, keyNodes(), two[0], two[1]), true)
		}
	}
}

// TestP11OneKindAlone has tables that are ok in one kind and not in the other.
func TestP11OneKindAlone(t *testing.T) {
	for _, two := range [][2]int{{2, 5}, {5, 2}, {6, 7}, {8, 9}, {11, 12}, {13, 11}} {
		for _, keys := range [][]int{{two[0], two[1]}, {0, two[0], 17, two[1], 1}, {two[0], 0, 1, two[1]}} {
			checkTableOk(t, tableOf(impl.TabEqv, keyNodes(), keys...), true)
			for _, key := range keys {
				if at := findKey(t, tableOf(impl.TabEqv, keyNodes(), keys...), key); at != slices.Index(keys, key) {
					t.Errorf("%v: %d is found at %d", keys, key, at)
				}
			}
			checkNoTable(t, "two that are the same data", tableOf(impl.TabEqual, keyNodes(), keys...))
		}
	}
}

func TestP11NotOk(t *testing.T) {
	for _, kind := range []int{0, -1, -2, 3, 4, 100, math.MinInt, math.MaxInt, 1<<32 + 1} {
		checkNoTable(t, "a Kind that is none", tableOf(kind, nil))
		checkNoTable(t, "a Kind that is none", tableOf(kind, keyNodes(), 0, 1))
	}
	for _, kind := range tableKinds {
		for name, d := range notOkData() {
			checkNoTable(t, name, impl.TabTable{Kind: kind, Data: d})
			if d.Roots = nil; !impl.ReadOk(d) {
				checkNoTable(t, name, impl.TabTable{Kind: kind, Data: d})
				if len(d.Nodes) > 0 {
					checkNoTable(t, name, impl.TabTable{Kind: kind, Data: d, Keys: []int{0}, Vals: []string{"a"}})
				}
			}
		}
		good := tableOf(kind, keyNodes(), 0, 1)
		for _, roots := range [][]int{{0}, {1, 0}, {18}, {-1}, {19}} {
			rooted := copiedTable(good)
			rooted.Data.Roots = roots
			checkNoTable(t, "Roots", rooted)
		}
		for _, key := range []int{-1, -2, 19, 20, math.MinInt, math.MaxInt} {
			checkNoTable(t, "a Key that is no node", tableOf(kind, keyNodes(), key))
			checkNoTable(t, "a Key that is no node", tableOf(kind, keyNodes(), 0, key, 1))
			checkNoTable(t, "a Key that is no node", tableOf(kind, keyNodes(), 0, 1, key))
		}
		for _, keys := range [][]int{{0, 0}, {0, 3}, {3, 0}, {1, 4}, {2, 2}, {6, 6}, {11, 11}, {17, 0, 17}, {0, 1, 2, 3}, {2, 0, 8, 1, 18, 2}} {
			checkNoTable(t, "two that are one key", tableOf(kind, keyNodes(), keys...))
		}
		for _, vals := range [][]string{nil, {"a"}, {"a", "b", "c"}, {"", "", ""}, slices.Repeat([]string{"a"}, 1000)} {
			checkNoTable(t, "a Val more or less", impl.TabTable{Kind: kind, Data: good.Data, Keys: good.Keys, Vals: vals})
		}
		checkNoTable(t, "a Val, no Key", impl.TabTable{Kind: kind, Data: good.Data, Vals: []string{"a"}})
		checkNoTable(t, "a Key, no nodes", impl.TabTable{Kind: kind, Keys: []int{0}, Vals: []string{"a"}})
		checkNoTable(t, "many Keys", impl.TabTable{Kind: kind, Data: good.Data, Keys: make([]int, 10_000), Vals: make([]string, 10_000)})
		checkNoTable(t, "many Keys, no Vals", impl.TabTable{Kind: kind, Data: good.Data, Keys: make([]int, 10_000)})
	}
	checkNoTable(t, "nothing", impl.TabTable{})
}

// checkStays has a table without a key for the node: TabDrop tells it as it is.
func checkStays(t *testing.T, x impl.TabTable, node int) {
	t.Helper()
	if out, ok := dropKey(t, x, node); ok || !equalTables(out, x) {
		t.Errorf("%v: without %d it is %v %v", x, node, out, ok)
	}
}

func TestP12Drops(t *testing.T) {
	for _, kind := range tableKinds {
		x := tableOf(kind, keyNodes(), 2, 0, 18, 6)
		checkDrops(t, x, 2, []int{0, 18, 6}, "v1", "v2", "v3")
		checkDrops(t, x, 0, []int{2, 18, 6}, "v0", "v2", "v3")
		checkDrops(t, x, 18, []int{2, 0, 6}, "v0", "v1", "v3")
		checkDrops(t, x, 6, []int{2, 0, 18}, "v0", "v1", "v2")
		checkDrops(t, x, 3, []int{2, 18, 6}, "v0", "v2", "v3") // one key with the one that was put
		checkDrops(t, tableOf(kind, keyNodes(), 11), 11, nil)
		checkDrops(t, tableOf(kind, keyNodes(), 4), 1, nil)
		for _, node := range []int{1, 4, 8, 9, 10, 11, 14, 15, 16, 17} {
			checkStays(t, x, node)
			checkStays(t, tableOf(kind, keyNodes()), node)
		}
		for count := range 21 {
			x := numberedKeys(kind, count)
			for node := range x.Data.Nodes {
				dropKey(t, x, node)
			}
		}
	}
}

func TestP12DropsTheSameData(t *testing.T) {
	x := tableOf(impl.TabEqual, keyNodes(), 5, 12, 9, 7)
	checkDrops(t, x, 2, []int{12, 9, 7}, "v1", "v2", "v3")
	checkDrops(t, x, 11, []int{5, 9, 7}, "v0", "v2", "v3")
	checkDrops(t, x, 8, []int{5, 12, 7}, "v0", "v1", "v3")
	checkDrops(t, x, 6, []int{5, 12, 9}, "v0", "v1", "v2")
	x.Kind = impl.TabEqv
	for _, node := range []int{2, 11, 13, 8, 6} {
		checkStays(t, x, node)
	}
	checkDrops(t, tableOf(impl.TabEqv, keyNodes(), 5, 2, 6, 7), 5, []int{2, 6, 7}, "v1", "v2", "v3")
	checkDrops(t, tableOf(impl.TabEqv, keyNodes(), 5, 2, 6, 7), 2, []int{5, 6, 7}, "v0", "v2", "v3")
	checkDrops(t, tableOf(impl.TabEqv, keyNodes(), 5, 2, 6, 7), 7, []int{5, 2, 6}, "v0", "v1", "v2")
	for _, kind := range tableKinds {
		x := tableOf(kind, oneHash(), 3, 1, 4, 15, 9)
		checkDrops(t, x, 4, []int{3, 1, 15, 9}, "v0", "v1", "v3", "v4")
		checkDrops(t, x, 3, []int{1, 4, 15, 9}, "v1", "v2", "v3", "v4")
		checkStays(t, x, 2)
	}
}

// TestP12PutAgain puts again what was dropped: it comes behind all.
func TestP12PutAgain(t *testing.T) {
	for _, kind := range tableKinds {
		x := tableOf(kind, keyNodes(), 2, 0, 18)
		x = checkDrops(t, x, 2, []int{0, 18}, "v1", "v2")
		x = checkPuts(t, x, 2, "again", []int{0, 18, 2}, "v1", "v2", "again")
		x = checkDrops(t, x, 3, []int{18, 2}, "v2", "again")
		x = checkPuts(t, x, 3, "a", []int{18, 2, 3}, "v2", "again", "a")
		x = checkDrops(t, x, 18, []int{2, 3}, "again", "a")
		x = checkDrops(t, x, 0, []int{2}, "again")
		x = checkDrops(t, x, 2, nil)
		checkStays(t, x, 2)
		full := numberedKeys(kind, 20)
		checkNotPut(t, full, 22, "a")
		full, _ = dropKey(t, full, 7)
		full, ok := putKey(t, full, 22, "a")
		if !ok || findKey(t, full, 22) != 19 || findKey(t, full, 7) != -1 {
			t.Errorf("%v", full)
		}
		checkNotPut(t, full, 7, "a")
	}
}

func TestP12Nodes(t *testing.T) {
	for _, kind := range tableKinds {
		x := checkGrown(t, tableOf(kind, nil), "(a b)", 0)
		x = checkGrown(t, x, "(a b)", 5) // one that is there already comes behind all the same
		x = checkGrown(t, x, "a", 10)
		x = checkGrown(t, x, "#0=(a . #0#)", 11)
		x = checkGrown(t, x, "#()", 13)
		x = checkGrown(t, x, "#1=#(#1# x #0=(#1# . #0#))", 14)
		x = checkGrown(t, x, "() b c", 17) // the first root alone
		x = checkGrown(t, x, "1 (1 2 3)", 18)
		checkGrown(t, x, `"é"`, 19)
		y := tableOf(kind, keyNodes(), 2, 0, 18) // nodes that are the same stay as they are
		y = checkGrown(t, y, "#((a) #())", 19)
		y = checkGrown(t, y, "(b . b)", 24)
		checkGrown(t, y, "(a)", 26)
	}
	x := tableOf(impl.TabEqual, keyNodes(), 2, 0, 18)
	x = checkGrown(t, x, "(a)", 19)
	checkPuts(t, x, 19, "again", []int{2, 0, 18}, "again", "v1", "v2")
	x.Kind = impl.TabEqv
	x = checkPuts(t, x, 19, "other", []int{2, 0, 18, 19}, "v0", "v1", "v2", "other")
	checkPuts(t, x, 20, "a", []int{2, 0, 18, 19}, "v0", "a", "v2", "other")
}

// TestP12NodesEachOnce has data whose first root is told each once, without what it does not come to.
func TestP12NodesEachOnce(t *testing.T) {
	a, b, end := node(impl.ReadSymbol, "a"), node(impl.ReadSymbol, "b"), node(impl.ReadNil, "")
	pairOf := func(first int, second int) impl.ReadNode { return node(impl.ReadPair, "", first, second) }
	row := node(impl.ReadRow, "", 2, 4, 0)
	for _, kind := range tableKinds {
		for _, x := range []impl.TabTable{tableOf(kind, nil), tableOf(kind, keyNodes(), 2, 0, 18), numberedKeys(kind, 20)} {
			at := len(x.Data.Nodes)
			checks := []struct {
				d    impl.ReadData
				want []impl.ReadNode
			}{
				{impl.ReadData{Nodes: []impl.ReadNode{a, b, end}, Roots: []int{1}}, []impl.ReadNode{b}},
				{impl.ReadData{Nodes: []impl.ReadNode{a, b, end}, Roots: []int{1, 0, 2}}, []impl.ReadNode{b}},
				{impl.ReadData{Nodes: []impl.ReadNode{end, a, a, pairOf(2, 0), pairOf(1, 3), b}, Roots: []int{4}}, []impl.ReadNode{pairOf(at+1, at+2), a, pairOf(at+1, at+3), end}},
				{impl.ReadData{Nodes: []impl.ReadNode{pairOf(2, 1), pairOf(3, 0), a, a, b}, Roots: []int{1, 4}}, []impl.ReadNode{pairOf(at+1, at), a}},
				{impl.ReadData{Nodes: []impl.ReadNode{end, b, a, row, a}, Roots: []int{3, 1}}, []impl.ReadNode{node(impl.ReadRow, "", at+1, at+1, at+2), a, end}},
			}
			for _, c := range checks {
				out, there := addDatum(t, x, c.d)
				if there != at || !equal(out.Data, impl.ReadData{Nodes: append(slices.Clone(x.Data.Nodes), c.want...)}) {
					t.Errorf("%v: with %v it is %v %d", x, c.d, out, there)
				}
			}
		}
	}
}

// TestP12MostNodes has tables that come to just as many nodes as may be, and to one more.
func TestP12MostNodes(t *testing.T) {
	for _, kind := range tableKinds {
		for _, size := range []int{0, 1, 2, 39, 40, 41, 78, 79, 80} {
			x := impl.TabTable{Kind: kind}
			for i := range size {
				x.Data.Nodes = append(x.Data.Nodes, node(impl.ReadNumber, strconv.Itoa(i)))
			}
			if size > 0 {
				x.Keys, x.Vals = []int{size - 1}, []string{"kept"}
			}
			for _, count := range []int{1, 2, 38, 39, 40, 41, 79, 80} {
				d := impl.ReadData{Nodes: []impl.ReadNode{node(impl.ReadNil, "")}, Roots: []int{count - 1, 0}} // () in as many vectors
				for i := range count - 1 {
					d.Nodes = append(d.Nodes, node(impl.ReadRow, "", i))
				}
				want := size
				if size+count > 80 {
					want = -1
				}
				out, at := addDatum(t, x, d)
				if at != want || want < 0 && !equalTables(out, x) {
					t.Errorf("%d nodes and %d: %d, %v", size, count, at, out)
				}
			}
			many := data(slices.Repeat([]impl.ReadNode{node(impl.ReadRow, "", 79)}, 80)...) // many nodes, but all are the same
			if out, at := addDatum(t, x, many); size < 80 && (at != size || len(out.Data.Nodes) != size+1) || size == 80 && at != -1 {
				t.Errorf("%d nodes and one: %d, %v", size, at, out)
			}
		}
	}
}

func TestP12NoDatum(t *testing.T) {
	for _, kind := range tableKinds {
		for _, x := range []impl.TabTable{tableOf(kind, nil), tableOf(kind, keyNodes(), 2, 0, 18), numberedKeys(kind, 20)} {
			none := notOkData()
			none["no data"] = impl.ReadData{}
			none["no Roots"] = impl.ReadData{Nodes: keyNodes()}
			none["a second root past the end"] = impl.ReadData{Nodes: keyNodes(), Roots: []int{0, 19}}
			for name, d := range none {
				if out, at := addDatum(t, x, d); at != -1 || !isNoTable(out) {
					t.Errorf("%s: %v %d", name, out, at)
				}
			}
		}
	}
}

// TestP11ByChance keeps, drops and asks for many keys, one behind the other, and holds each answer against the other way.
func TestP11ByChance(t *testing.T) {
	d := &dice{state: 91}
	for i := range 300 {
		x := impl.TabTable{Kind: tableKinds[i%2]}
		if i%3 == 0 {
			x.Data.Nodes = d.disguised(d.anyData(d.upTo(20) + 1)).Nodes
		}
		for range 40 {
			node := d.upTo(len(x.Data.Nodes)+1) - 1
			switch d.upTo(7) {
			case 0:
				g := d.anyData(d.upTo(5) + 1)
				g.Roots = append(g.Roots, d.upTo(len(g.Nodes)-1))
				x, _ = addDatum(t, x, g)
			case 1, 2:
				if out, ok := dropKey(t, x, node); ok {
					x = out
				}
			case 3:
				findKey(t, x, node)
			default:
				if out, ok := putKey(t, x, node, "v"+strconv.Itoa(d.upTo(99))); ok {
					x = out
				}
			}
			checkTableOk(t, x, true)
		}
		if t.Failed() {
			return // one table is enough to tell
		}
	}
}

// TestP11AnyTables has tables that were changed in one thing by chance, many of them not ok.
func TestP11AnyTables(t *testing.T) {
	d := &dice{state: 93}
	oks := map[bool]int{}
	for i := range 3000 {
		g := d.disguised(d.anyData(d.upTo(7) + 1))
		x := impl.TabTable{Kind: tableKinds[i%2], Data: impl.ReadData{Nodes: g.Nodes}}
		for range d.upTo(5) {
			if key := d.upTo(len(g.Nodes) - 1); d.upTo(9) == 0 || otherFind(x, key) < 0 {
				x.Keys, x.Vals = append(x.Keys, key), append(x.Vals, "a")
			}
		}
		switch d.upTo(9) {
		case 0:
			x.Vals = append(x.Vals, "a")
		case 1:
			x.Kind = 3 - x.Kind
		case 2:
			x.Data.Roots = g.Roots
		case 3:
			x.Keys, x.Vals = append(x.Keys, d.upTo(len(g.Nodes)+1)-1), append(x.Vals, "\xc3\xa9"[d.upTo(1):])
		}
		ok := otherTableOk(x)
		oks[ok]++
		checkTableOk(t, x, ok)
		for node := -1; node <= len(g.Nodes); node++ {
			findKey(t, x, node)
		}
		putKey(t, x, d.upTo(len(g.Nodes)-1), "b")
		dropKey(t, x, d.upTo(len(g.Nodes)-1))
		if t.Failed() {
			return // one table is enough to tell
		}
	}
	if oks[true] < 1000 || oks[false] < 300 {
		t.Errorf("ok: %v", oks)
	}
}
