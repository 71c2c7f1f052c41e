package tests

import (
	"slices"
	"strings"
	"testing"

	"loop.example/sistab/impl"
)

// checkSame asks both ways whether data are the same, and holds it against following all ways of Kids.
func checkSame(t *testing.T, a impl.ReadData, b impl.ReadData) bool {
	t.Helper()
	roomyA, memoryA := withRoom(a)
	roomyB, memoryB := withRoom(b)
	beforeA, beforeB := slices.Clone(memoryA), slices.Clone(memoryB)
	same, back := impl.ReadSame(roomyA, roomyB), impl.ReadSame(roomyB, roomyA)
	if !equal(roomyA, a) || !equal(roomyB, b) || !slices.Equal(memoryA, beforeA) || !slices.Equal(memoryB, beforeB) {
		t.Errorf("%v or %v, or behind their lists, was written into: %v %v, %v %v", a, b, roomyA, memoryA, roomyB, memoryB)
	}
	if want := followedSame(a, b); same != want || back != want {
		t.Errorf("%v and %v: the same %v, the other way %v, not %v", a, b, same, back, want)
	}
	if !impl.ReadSame(a, a) || !impl.ReadSame(b, b) {
		t.Errorf("%v or %v is not the same as itself", a, b)
	}
	return same
}

// followedSame says of data that are ok whether they are the same, by following the same Kids of both.
func followedSame(a impl.ReadData, b impl.ReadData) bool {
	met := map[[2]int]bool{}
	var differ func(x int, y int) bool
	differ = func(x int, y int) bool {
		if met[[2]int{x, y}] {
			return false
		}
		met[[2]int{x, y}] = true
		p, q := a.Nodes[x], b.Nodes[y]
		if p.Sort != q.Sort || p.Text != q.Text || len(p.Kids) != len(q.Kids) {
			return true
		}
		for i := range p.Kids {
			if differ(p.Kids[i], q.Kids[i]) {
				return true
			}
		}
		return false
	}
	for i := range min(len(a.Roots), len(b.Roots)) {
		if differ(a.Roots[i], b.Roots[i]) {
			return false
		}
	}
	return len(a.Roots) == len(b.Roots)
}

// checkIs has two data that are the same, or not.
func checkIs(t *testing.T, a impl.ReadData, b impl.ReadData, want bool) {
	t.Helper()
	if got := checkSame(t, a, b); got != want {
		t.Errorf("%v and %v: the same %v", a, b, got)
	}
}

// anyData makes data that are ok, of nodes of all Sorts.
func (d *dice) anyData(size int) impl.ReadData {
	g := impl.ReadData{}
	for range size {
		sort := []int{7, 7, 7, 7, 7, 7, 8, 8, 1, 2, 3, 4, 5, 6, 9}[d.upTo(14)]
		of := texts[sort].right
		n := node(sort, of[d.upTo(min(2, len(of)-1))])
		if d.upTo(3) == 0 {
			n.Text = of[d.upTo(len(of)-1)]
		}
		kids := kidCounts(sort)[0]
		if sort == impl.ReadRow {
			kids = d.upTo(4)
		}
		for range kids {
			n.Kids = append(n.Kids, d.upTo(size-1))
		}
		g.Nodes = append(g.Nodes, n)
	}
	for range d.upTo(3) {
		g.Roots = append(g.Roots, d.upTo(size-1))
	}
	return g
}

// disguised is the same data by other nodes: each of them up to three times, in another order.
func (d *dice) disguised(g impl.ReadData) impl.ReadData {
	order := []int{} // by place: the node that stands there
	for i := range g.Nodes {
		order = append(order, slices.Repeat([]int{i}, d.upTo(2)+1)...)
	}
	for i := range order {
		k := d.upTo(i)
		order[i], order[k] = order[k], order[i]
	}
	places := make([][]int, len(g.Nodes))
	for place, i := range order {
		places[i] = append(places[i], place)
	}
	some := func(from []int) []int {
		to := []int{}
		for _, i := range from {
			to = append(to, places[i][d.upTo(len(places[i])-1)])
		}
		return to
	}
	out := impl.ReadData{Roots: some(g.Roots)}
	for _, i := range order {
		out.Nodes = append(out.Nodes, node(g.Nodes[i].Sort, g.Nodes[i].Text, some(g.Nodes[i].Kids)...))
	}
	return out
}

// bentData is data with one thing changed: a root, a Kid, or what a node is.
func (d *dice) bentData(g impl.ReadData) impl.ReadData {
	last := len(g.Nodes) - 1
	switch n := &g.Nodes[d.upTo(last)]; {
	case d.upTo(3) == 0 && len(g.Roots) > 0:
		g.Roots[d.upTo(len(g.Roots)-1)] = d.upTo(last)
	case d.upTo(7) == 0 && len(g.Roots) > 0:
		g.Roots = g.Roots[1:]
	case len(n.Kids) > 0 && d.upTo(3) > 0:
		n.Kids[d.upTo(len(n.Kids)-1)] = d.upTo(last)
	default:
		*n = node(impl.ReadSymbol, "bent")
	}
	return g
}

// TestP4OfOkData has data that are ok: ReadMin of them is ok, the same, has each node once, and is ReadMin of itself.
func TestP4OfOkData(t *testing.T) {
	d := &dice{state: 51}
	for i := range 4000 {
		g := d.graph(d.upTo(30) + 1)
		if i%2 == 0 {
			g = d.anyData(d.upTo(30) + 1)
		}
		if i%3 == 0 {
			g = d.disguised(d.anyData(d.upTo(20) + 1))
		}
		checkLeast(t, g)
		if t.Failed() {
			return // one graph is enough to tell
		}
	}
}

// checkLeast holds promise 4 of data that are ok.
func checkLeast(t *testing.T, d impl.ReadData) {
	t.Helper()
	least := impl.ReadMin(d)
	if !impl.ReadOk(least) {
		t.Errorf("%v: %v is not ok", d, least)
		return
	}
	if !checkSame(t, d, least) {
		t.Errorf("%v: %v is not the same", d, least)
	}
	for i := range least.Nodes {
		for k := range i {
			if followedSame(impl.ReadData{Nodes: least.Nodes, Roots: []int{i}}, impl.ReadData{Nodes: least.Nodes, Roots: []int{k}}) {
				t.Errorf("%v: %v has the same node at %d and %d", d, least, k, i)
			}
		}
	}
	checkMin(t, least, least)
	checkMin(t, d, otherMin(rootsOf(d)))
}

func TestP4EverySmallGraph(t *testing.T) {
	for size := 1; size <= 3; size++ {
		everySmallGraph(size, func(d impl.ReadData) {
			if !t.Failed() {
				checkLeast(t, d)
			}
		})
	}
}

// TestP4Limits has data as many as may be.
func TestP4Limits(t *testing.T) {
	checkLeast(t, impl.ReadData{})
	around, wide, names := impl.ReadData{}, impl.ReadData{}, impl.ReadData{}
	for i := range 80 {
		around.Nodes = append(around.Nodes, node(impl.ReadPair, "", (i+1)%80, (i+79)%80))
		row := node(impl.ReadRow, "")
		for k := range 40 {
			row.Kids = append(row.Kids, (i*k)%80)
		}
		wide.Nodes = append(wide.Nodes, row)
		names.Nodes = append(names.Nodes, node(impl.ReadSymbol, strings.Repeat("a", i+1)))
	}
	names.Nodes[79] = node(impl.ReadRow, "", 78, 77, 76)
	for i := range 12 {
		for _, d := range []*impl.ReadData{&around, &wide, &names} {
			d.Roots = append(d.Roots, 79-i)
		}
	}
	for _, d := range []impl.ReadData{around, wide, names} {
		checkLeast(t, d)
	}
	if least := impl.ReadMin(around); len(least.Nodes) != 1 || !slices.Equal(least.Roots, make([]int, 12)) {
		t.Errorf("%v", least)
	}
	around.Nodes[40] = node(impl.ReadSymbol, "a") // no two are the same any more
	checkLeast(t, around)
	if least := impl.ReadMin(around); len(least.Nodes) != 80 {
		t.Errorf("%d nodes: %v", len(least.Nodes), least)
	}
}

func TestP5NotOk(t *testing.T) {
	good := data(node(impl.ReadNil, ""))
	for name, d := range notOkData() {
		for _, other := range []impl.ReadData{d, good, {}, {Roots: d.Roots}, {Nodes: d.Nodes}} {
			if !impl.ReadOk(d) && (impl.ReadSame(d, other) || impl.ReadSame(other, d)) {
				t.Errorf("%s: the same as %v", name, other)
			}
		}
	}
	if !impl.ReadSame(good, good) {
		t.Error("a good one is not the same as itself")
	}
}

func TestP5Roots(t *testing.T) {
	a, b := node(impl.ReadSymbol, "a"), node(impl.ReadSymbol, "b")
	of := func(roots ...int) impl.ReadData { return impl.ReadData{Nodes: []impl.ReadNode{a, b, a}, Roots: roots} }
	checkIs(t, impl.ReadData{}, impl.ReadData{}, true)
	checkIs(t, impl.ReadData{}, of(), true)
	checkIs(t, of(), impl.ReadData{Nodes: []impl.ReadNode{b}}, true)
	checkIs(t, impl.ReadData{}, of(0), false)
	checkIs(t, of(0), of(0, 0), false)
	checkIs(t, of(0, 1), of(0), false)
	checkIs(t, of(0, 1), of(1, 0), false)
	checkIs(t, of(0, 1), of(2, 1), true)
	checkIs(t, of(0, 0), of(0, 1), false)
	checkIs(t, of(0, 0), of(0, 2), true)
	checkIs(t, of(0, 1, 0), of(0, 1, 1), false)
	checkIs(t, of(0, 1, 2), of(2, 1, 0), true)
	checkIs(t, of(0, 0, 0, 0, 0, 0, 0, 0, 0, 0, 0, 0), of(2, 0, 2, 0, 2, 0, 2, 0, 2, 0, 2, 2), true)
	checkIs(t, of(0, 0, 0, 0, 0, 0, 0, 0, 0, 0, 0, 0), of(2, 0, 2, 0, 2, 0, 2, 0, 2, 0, 2, 1), false)
}

// TestP5OneNode has nodes that differ in just one thing, alone and far down in others.
func TestP5OneNode(t *testing.T) {
	kids := make([]int, 40)
	nodes := []impl.ReadNode{
		node(impl.ReadSymbol, "t"), node(impl.ReadString, "t"), node(impl.ReadChar, "t"), node(impl.ReadBool, "t"), node(impl.ReadRaw, "t"), node(impl.ReadBool, "f"),
		node(impl.ReadNumber, "1"), node(impl.ReadString, "1"), node(impl.ReadChar, "1"), node(impl.ReadRaw, "1"), node(impl.ReadNumber, "-1"), node(impl.ReadNumber, "1/2"),
		node(impl.ReadString, ""), node(impl.ReadRaw, ""), node(impl.ReadNil, ""), node(impl.ReadRow, ""), node(impl.ReadString, "t "), node(impl.ReadString, "T"), node(impl.ReadString, "tt"), node(impl.ReadString, "t\x00"), node(impl.ReadSymbol, "tt"),
		node(impl.ReadRow, "", 0), node(impl.ReadRow, "", 0, 0), node(impl.ReadPair, "", 0, 0), node(impl.ReadRow, "", kids[:39]...), node(impl.ReadRow, "", kids...),
	}
	for i, x := range nodes {
		for k, y := range nodes {
			checkIs(t, data(x), data(y), i == k)
			checkIs(t, farDown(x), farDown(y), i == k)
			checkIs(t, lastOf(x), lastOf(y), i == k)
		}
	}
}

// farDown is a long list with a node at its end, which may have the list's beginning as its Kids.
func farDown(last impl.ReadNode) impl.ReadData {
	d := impl.ReadData{Roots: []int{0}}
	for i := range 78 {
		d.Nodes = append(d.Nodes, node(impl.ReadPair, "", 79, i+1))
	}
	d.Nodes = append(d.Nodes, last, node(impl.ReadSymbol, "a"))
	return d
}

// lastOf is a vector of which just the last Kid is the node, in a list of two vectors.
func lastOf(last impl.ReadNode) impl.ReadData {
	kids := slices.Repeat([]int{3}, 40)
	kids[39] = 2
	return data(node(impl.ReadPair, "", 4, 1), node(impl.ReadRow, "", kids...), last, node(impl.ReadSymbol, "a"), node(impl.ReadRow, "", slices.Repeat([]int{3}, 40)...))
}

// around is a list that goes around, of so many parts, of which one may differ.
func around(size int, other int) impl.ReadData {
	d := impl.ReadData{Roots: []int{0}}
	for i := range size {
		part := size
		if i == other {
			part++
		}
		d.Nodes = append(d.Nodes, node(impl.ReadPair, "", part, (i+1)%size))
	}
	d.Nodes = append(d.Nodes, node(impl.ReadSymbol, "a"), node(impl.ReadSymbol, "b"))
	return d
}

func TestP5GoingAround(t *testing.T) {
	for first := 1; first <= 12; first++ {
		for second := 1; second <= 12; second++ {
			checkIs(t, around(first, -1), around(second, -1), true)
			checkIs(t, around(first, first-1), around(second, second-1), first == second)
			checkIs(t, around(first, first-1), around(second, -1), false)
		}
	}
	checkIs(t, around(78, -1), around(77, -1), true)
	checkIs(t, around(78, 77), around(77, -1), false)
	checkIs(t, around(78, 77), around(77, 76), false)
	checkIs(t, around(78, 77), around(78, 76), false)
	checkIs(t, around(78, 77), around(78, 77), true)
}
