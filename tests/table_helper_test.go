package tests

import (
	"math"
	"slices"
	"strconv"
	"strings"
	"testing"

	"loop.example/sistab/impl"
)

var tableKinds = []int{impl.TabEqv, impl.TabEqual}

// someNodes are ints that may be asked for as nodes, whatever the table.
func someNodes(x impl.TabTable) []int {
	nodes := []int{-1, -2, math.MinInt, len(x.Data.Nodes), len(x.Data.Nodes) + 1, math.MaxInt}
	for node := range min(len(x.Data.Nodes), 90) {
		nodes = append(nodes, node)
	}
	return nodes
}

// tableOf is a table of nodes with the keys, under each of which its place is kept.
func tableOf(kind int, nodes []impl.ReadNode, keys ...int) impl.TabTable {
	x := impl.TabTable{Kind: kind, Data: impl.ReadData{Nodes: nodes}}
	for i, key := range keys {
		x.Keys = append(x.Keys, key)
		x.Vals = append(x.Vals, "v"+strconv.Itoa(i))
	}
	return x
}

func equalTables(x impl.TabTable, y impl.TabTable) bool {
	return x.Kind == y.Kind && equal(x.Data, y.Data) && slices.Equal(x.Keys, y.Keys) && slices.Equal(x.Vals, y.Vals)
}

func isNoTable(x impl.TabTable) bool { return equalTables(x, impl.TabTable{}) }

// copiedTable shares no list with what it is a copy of.
func copiedTable(x impl.TabTable) impl.TabTable {
	return impl.TabTable{Kind: x.Kind, Data: copied(x.Data), Keys: slices.Clone(x.Keys), Vals: slices.Clone(x.Vals)}
}

// withTable hands over a table whose lists have room behind them, and looks whether all of it stays as it was.
func withTable(t *testing.T, x impl.TabTable, do func(x impl.TabTable)) {
	t.Helper()
	withData(t, x.Data, func(d impl.ReadData) {
		roomy := impl.TabTable{Kind: x.Kind, Data: d}
		keys := append(slices.Clone(x.Keys), -5, -5)
		vals := append(slices.Clone(x.Vals), "room", "room")
		roomy.Keys, roomy.Vals = keys[:len(x.Keys)], vals[:len(x.Vals)]
		do(roomy)
		if !slices.Equal(keys, append(slices.Clone(x.Keys), -5, -5)) || !slices.Equal(vals, append(slices.Clone(x.Vals), "room", "room")) {
			t.Errorf("%v, or behind its lists, was written into: %v, %v", x, keys, vals)
		}
	})
}

// taken is a copy of a table that was answered. The table itself, and what is behind its lists, is written into then:
// none of that may be seen anywhere else. Texts are those of which none may be told in the same memory.
func taken(t *testing.T, x impl.TabTable, texts ...string) impl.TabTable {
	t.Helper()
	kept := copiedTable(x)
	checkApart(t, impl.ReadData{Nodes: append(slices.Clone(x.Data.Nodes), impl.ReadNode{Kids: x.Keys}), Roots: x.Data.Roots})
	for _, text := range append(textsOf(x.Data), x.Vals...) {
		if slices.ContainsFunc(texts, func(other string) bool { return sharesText(text, other) }) {
			t.Errorf("%v: the text %s has one memory with an argument", x, short(text))
		}
	}
	scribble(impl.ReadData{Nodes: x.Data.Nodes, Roots: x.Keys})
	scribble(impl.ReadData{Roots: x.Data.Roots})
	for i := range x.Vals[:cap(x.Vals)] {
		x.Vals[:cap(x.Vals)][i] = "scribbled"
	}
	return kept
}

func textsOf(d impl.ReadData) []string {
	out := []string{}
	for _, n := range d.Nodes {
		out = append(out, n.Text)
	}
	return out
}

// allTexts are the texts of a table: of its nodes, and what is kept.
func allTexts(x impl.TabTable) []string {
	return append(textsOf(x.Data), x.Vals...)
}

// checkTableOk asks whether a table is ok.
func checkTableOk(t *testing.T, x impl.TabTable, want bool) {
	t.Helper()
	withTable(t, x, func(x impl.TabTable) {
		if got := impl.TabOk(x); got != want {
			t.Errorf("%v: ok %v", x, got)
		}
	})
}

// findKey asks a table for a key, and holds that against the other way.
func findKey(t *testing.T, x impl.TabTable, node int) int {
	t.Helper()
	at := 0
	withTable(t, x, func(x impl.TabTable) {
		at = impl.TabFind(x, node)
		if want := otherFind(x, node); at != want {
			t.Errorf("%v: %d is found at %d, not %d", x, node, at, want)
		}
	})
	return at
}

// putKey puts a text under a node, and holds promise 11.
func putKey(t *testing.T, x impl.TabTable, node int, val string) (impl.TabTable, bool) {
	t.Helper()
	out, ok := impl.TabTable{}, false
	withTable(t, x, func(x impl.TabTable) {
		out, ok = impl.TabPut(x, node, val)
		out = taken(t, out, append(allTexts(x), val)...)
	})
	if want, may := otherPut(x, node, val); ok != may || !equalTables(out, want) {
		t.Errorf("%v: %s put under %d gives %v %v, not %v %v", x, short(val), node, out, ok, want, may)
	}
	if ok {
		checkPut(t, x, node, val, out)
	}
	return out, ok
}

// checkPut has a table ahead of and behind TabPut: what was put is found under all that is one key with the node, nothing else changes.
func checkPut(t *testing.T, x impl.TabTable, node int, val string, out impl.TabTable) {
	t.Helper()
	if !impl.TabOk(out) {
		t.Errorf("%v is not ok", out)
	}
	for other := range x.Data.Nodes {
		was, is := impl.TabFind(x, other), impl.TabFind(out, other)
		switch one := otherOneKey(x, node, other); {
		case one && (is < 0 || out.Vals[is] != val || was >= 0 && (is != was || out.Keys[is] != x.Keys[was])):
			t.Errorf("%v: %s was put under %d, but under %d is %d, was %d", out, short(val), node, other, is, was)
		case !one && (is != was || was >= 0 && (out.Vals[is] != x.Vals[was] || out.Keys[is] != x.Keys[was])):
			t.Errorf("%v: %s was put under %d, and under %d is %d, was %d", out, short(val), node, other, is, was)
		}
	}
}

// dropKey drops the key of a node, and holds promise 12.
func dropKey(t *testing.T, x impl.TabTable, node int) (impl.TabTable, bool) {
	t.Helper()
	out, ok := impl.TabTable{}, false
	withTable(t, x, func(x impl.TabTable) {
		out, ok = impl.TabDrop(x, node)
		out = taken(t, out, allTexts(x)...)
	})
	if want, may := otherDrop(x, node); ok != may || !equalTables(out, want) {
		t.Errorf("%v: without %d it is %v %v, not %v %v", x, node, out, ok, want, may)
	}
	if at := impl.TabFind(x, node); ok != (at >= 0) || ok && (impl.TabFind(out, node) >= 0 || len(out.Keys) != len(x.Keys)-1 || !impl.TabOk(out)) {
		t.Errorf("%v: %d is at %d, without it: %v %v", x, node, at, out, ok)
	}
	return out, ok
}

// addDatum puts a datum among the nodes, and holds promise 12.
func addDatum(t *testing.T, x impl.TabTable, d impl.ReadData) (impl.TabTable, int) {
	t.Helper()
	out, at := impl.TabTable{}, 0
	withTable(t, x, func(x impl.TabTable) {
		withData(t, d, func(d impl.ReadData) {
			out, at = impl.TabNode(x, d)
			out = taken(t, out, append(allTexts(x), textsOf(d)...)...)
		})
	})
	if want, there := otherNode(x, d); at != there || !equalTables(out, want) {
		t.Errorf("%v: with %v it is %v %d, not %v %d", x, d, out, at, want, there)
	}
	if at < 0 {
		return out, at
	}
	if !impl.TabOk(out) || !impl.ReadSame(firstOf(d), impl.ReadData{Nodes: out.Data.Nodes, Roots: []int{at}}) {
		t.Errorf("%v: with %v it is %v, but %d is not the datum", x, d, out, at)
	}
	for node := range x.Data.Nodes {
		if was, is := impl.TabFind(x, node), impl.TabFind(out, node); is != was {
			t.Errorf("%v: with %v %d is found at %d, was %d", x, d, node, is, was)
		}
	}
	return out, at
}

// checkGrown has a table and the text of a datum, and where that comes to stand; it tells the table then.
func checkGrown(t *testing.T, x impl.TabTable, text string, want int) impl.TabTable {
	t.Helper()
	out, at := addDatum(t, x, datumOf(t, text))
	if at != want {
		t.Errorf("%v: %s stands at %d, not %d", x, short(text), at, want)
	}
	return out
}

// checkPuts has a table and what TabPut gives: keys and texts.
func checkPuts(t *testing.T, x impl.TabTable, node int, val string, keys []int, vals ...string) impl.TabTable {
	t.Helper()
	out, ok := putKey(t, x, node, val)
	if !ok || !slices.Equal(out.Keys, keys) || !slices.Equal(out.Vals, vals) {
		t.Errorf("%v: %s put under %d gives %v %q %v, not %v %q", x, short(val), node, out.Keys, out.Vals, ok, keys, vals)
	}
	return out
}

// checkNotPut has a table, a node and a text that may not be put under it.
func checkNotPut(t *testing.T, x impl.TabTable, node int, val string) {
	t.Helper()
	if out, ok := putKey(t, x, node, val); ok || !isNoTable(out) {
		t.Errorf("%v: %s put under %d gives %v %v", x, short(val), node, out, ok)
	}
}

// checkDrops has a table and what TabDrop gives: keys and texts.
func checkDrops(t *testing.T, x impl.TabTable, node int, keys []int, vals ...string) impl.TabTable {
	t.Helper()
	out, ok := dropKey(t, x, node)
	if !ok || !slices.Equal(out.Keys, keys) || !slices.Equal(out.Vals, vals) {
		t.Errorf("%v: without %d it is %v %q %v, not %v %q", x, node, out.Keys, out.Vals, ok, keys, vals)
	}
	return out
}

// checkNoTable has a table that is not ok: no call tells anything of it.
func checkNoTable(t *testing.T, name string, x impl.TabTable) {
	t.Helper()
	checkTableOk(t, x, false)
	a := data(node(impl.ReadSymbol, "a"))
	withTable(t, x, func(x impl.TabTable) {
		for _, node := range append(someNodes(x), x.Keys...) {
			if at := impl.TabFind(x, node); at != -1 {
				t.Errorf("%s: %d is found at %d", name, node, at)
			}
			if out, ok := impl.TabPut(x, node, "a"); ok || !isNoTable(out) {
				t.Errorf("%s: put under %d gives %v %v", name, node, out, ok)
			}
			if out, ok := impl.TabDrop(x, node); ok || !isNoTable(out) {
				t.Errorf("%s: without %d it is %v %v", name, node, out, ok)
			}
		}
		if out, at := impl.TabNode(x, a); at != -1 || !isNoTable(out) {
			t.Errorf("%s: with a datum it is %v %d", name, out, at)
		}
	})
}

// What follows is another way to keep texts: each node is asked for by following all Kids, key by key.

// otherOneKey says whether two nodes of a table are one key.
func otherOneKey(x impl.TabTable, a int, b int) bool {
	p, q := x.Data.Nodes[a], x.Data.Nodes[b]
	if x.Kind == impl.TabEqual {
		return followedSame(impl.ReadData{Nodes: x.Data.Nodes, Roots: []int{a}}, impl.ReadData{Nodes: x.Data.Nodes, Roots: []int{b}})
	}
	return a == b || p.Sort == q.Sort && p.Text == q.Text && p.Sort != impl.ReadPair && p.Sort != impl.ReadRow
}

// otherTableOk is what TabOk must tell.
func otherTableOk(x impl.TabTable) bool {
	if !slices.Contains(tableKinds, x.Kind) || !impl.ReadOk(x.Data) || len(x.Data.Roots) > 0 || len(x.Keys) > 20 || len(x.Keys) != len(x.Vals) {
		return false
	}
	for i, key := range x.Keys {
		if key < 0 || key >= len(x.Data.Nodes) || !mayBeKept(x.Vals[i]) {
			return false
		}
		for _, other := range x.Keys[:i] {
			if otherOneKey(x, key, other) {
				return false
			}
		}
	}
	return true
}

func mayBeKept(val string) bool {
	return len(val) <= 200 && charactersAlone(val)
}

// otherFind is what TabFind must tell.
func otherFind(x impl.TabTable, node int) int {
	if !otherHas(x, node) {
		return -1
	}
	return slices.IndexFunc(x.Keys, func(key int) bool { return otherOneKey(x, key, node) })
}

// otherHas says whether a table is ok and has that node.
func otherHas(x impl.TabTable, node int) bool {
	return otherTableOk(x) && node >= 0 && node < len(x.Data.Nodes)
}

// otherPut is what TabPut must tell.
func otherPut(x impl.TabTable, node int, val string) (impl.TabTable, bool) {
	if !otherHas(x, node) {
		return impl.TabTable{}, false
	}
	out := copiedTable(x)
	if at := otherFind(x, node); at >= 0 {
		out.Vals[at] = val
	} else {
		out.Keys, out.Vals = append(out.Keys, node), append(out.Vals, val)
	}
	if !otherTableOk(out) {
		return impl.TabTable{}, false
	}
	return out, true
}

// otherDrop is what TabDrop must tell.
func otherDrop(x impl.TabTable, node int) (impl.TabTable, bool) {
	if !otherHas(x, node) {
		return impl.TabTable{}, false
	}
	at, out := otherFind(x, node), impl.TabTable{Kind: x.Kind, Data: copied(x.Data)}
	for i := range x.Keys {
		if i != at {
			out.Keys, out.Vals = append(out.Keys, x.Keys[i]), append(out.Vals, x.Vals[i])
		}
	}
	return out, at >= 0
}

// otherNode is what TabNode must tell.
func otherNode(x impl.TabTable, d impl.ReadData) (impl.TabTable, int) {
	if !otherTableOk(x) || !impl.ReadOk(d) || len(d.Roots) == 0 {
		return impl.TabTable{}, -1
	}
	out, least := copiedTable(x), otherMin(rootsOf(firstOf(d)))
	for _, n := range least.Nodes {
		for i := range n.Kids {
			n.Kids[i] += len(x.Data.Nodes)
		}
		out.Data.Nodes = append(out.Data.Nodes, n)
	}
	if len(out.Data.Nodes) > 80 {
		return copiedTable(x), -1
	}
	return out, len(x.Data.Nodes)
}

// longVals are texts that are just short enough to be kept.
func longVals() []string {
	return []string{strings.Repeat("a", 200), strings.Repeat("é", 100), strings.Repeat("\x00", 200), strings.Repeat("😀", 50), "aa" + strings.Repeat("é", 99)}
}
