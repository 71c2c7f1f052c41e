package tests

import (
	"math"
	"slices"
	"testing"

	"loop.example/sistab/impl"
)

// checkMin has data, and what ReadMin of them is.
func checkMin(t *testing.T, d impl.ReadData, want impl.ReadData) {
	t.Helper()
	roomy, memory := withRoom(d)
	before := slices.Clone(memory)
	got := impl.ReadMin(roomy)
	if !equal(got, want) {
		t.Errorf("%v: %v, not %v", d, got, want)
	}
	if !equal(roomy, d) || !slices.Equal(memory, before) {
		t.Errorf("%v, or behind its lists, was written into: %v, %v", d, roomy, memory)
	}
	checkApart(t, got)
	scribble(got)
	if !equal(roomy, d) || !slices.Equal(memory, before) {
		t.Errorf("%v shares memory with what ReadMin answers", d)
	}
}

// withRoom is a copy of data whose lists stand one behind the other in one memory, with room between; and that memory.
func withRoom(d impl.ReadData) (impl.ReadData, []int) {
	const room = 2
	size := len(d.Roots) + room
	for _, n := range d.Nodes {
		size += len(n.Kids) + room
	}
	memory := slices.Repeat([]int{-5}, size)
	used := 0
	place := func(list []int) []int {
		at := used
		copy(memory[at:], list)
		used += len(list) + room
		return memory[at : at+len(list)]
	}
	roomy := impl.ReadData{Nodes: slices.Clone(d.Nodes), Roots: place(d.Roots)}
	for i := range roomy.Nodes {
		roomy.Nodes[i].Kids = place(roomy.Nodes[i].Kids)
	}
	return roomy, memory
}

// scribble writes into all lists of data, and behind their ends.
func scribble(d impl.ReadData) {
	for _, n := range d.Nodes {
		for i := range n.Kids[:cap(n.Kids)] {
			n.Kids[:cap(n.Kids)][i] = -9
		}
	}
	for i := range d.Roots[:cap(d.Roots)] {
		d.Roots[:cap(d.Roots)][i] = -9
	}
	for i := range d.Nodes[:cap(d.Nodes)] {
		d.Nodes[:cap(d.Nodes)][i] = node(-9, "")
	}
}

func TestP4MinOfGraphs(t *testing.T) {
	end, a, b := node(impl.ReadNil, ""), node(impl.ReadSymbol, "a"), node(impl.ReadSymbol, "b")
	pairOf := func(first int, second int) impl.ReadNode { return node(impl.ReadPair, "", first, second) }
	checkMin(t, impl.ReadData{}, impl.ReadData{})
	checkMin(t, impl.ReadData{Nodes: []impl.ReadNode{a, b}}, impl.ReadData{})
	checkMin(t, data(a), data(a))
	checkMin(t, data(a, b, a), data(a))
	checkMin(t, impl.ReadData{Nodes: []impl.ReadNode{a, b, a}, Roots: []int{2, 0, 1, 2}}, impl.ReadData{Nodes: []impl.ReadNode{a, b}, Roots: []int{0, 0, 1, 0}})
	checkMin(t, impl.ReadData{Nodes: []impl.ReadNode{end, a, pairOf(1, 0)}, Roots: []int{2}}, data(pairOf(1, 2), a, end))
	checkMin(t, data(pairOf(1, 0), pairOf(0, 1)), data(pairOf(0, 0)))
	checkMin(t, data(pairOf(3, 1), pairOf(3, 2), pairOf(3, 0), a), data(pairOf(1, 0), a))
	checkMin(t, data(pairOf(3, 1), pairOf(4, 2), pairOf(3, 0), a, b), data(pairOf(1, 2), a, pairOf(3, 4), b, pairOf(1, 0)))
	checkMin(t, data(node(impl.ReadRow, "", 1, 2, 3, 0), pairOf(3, 3), node(impl.ReadRow, "", 1), end), data(node(impl.ReadRow, "", 1, 3, 2, 0), pairOf(2, 2), end, node(impl.ReadRow, "", 1)))
	checkMin(t, data(node(impl.ReadRow, "", 1, 2, 3), node(impl.ReadRow, ""), end, node(impl.ReadRaw, "")), data(node(impl.ReadRow, "", 1, 2, 3), node(impl.ReadRow, ""), end, node(impl.ReadRaw, "")))
}

// TestP4MinAsTheyAre has nodes that are not ok: Sort and Text are told as they are.
func TestP4MinAsTheyAre(t *testing.T) {
	odd := []impl.ReadNode{
		node(impl.ReadRow, "x", 1, 2, 3, 4, 5, 6), node(0, ""), node(-3, "a\xff"), node(impl.ReadNumber, "01"), node(impl.ReadPair, "p", 0, 2), node(math.MaxInt, "a\xff"), node(impl.ReadRow, "y", 0),
	}
	checkMin(t, data(odd...), impl.ReadData{Nodes: []impl.ReadNode{
		node(impl.ReadRow, "x", 1, 2, 3, 4, 5, 6), node(0, ""), node(-3, "a\xff"), node(impl.ReadNumber, "01"), node(impl.ReadPair, "p", 0, 2), node(math.MaxInt, "a\xff"), node(impl.ReadRow, "y", 0),
	}, Roots: []int{0}})
	many := impl.ReadData{Nodes: []impl.ReadNode{node(impl.ReadNil, "")}, Roots: make([]int, 100)}
	checkMin(t, many, many)
}

func TestP4MinOfNoData(t *testing.T) {
	end := node(impl.ReadNil, "")
	for _, place := range []int{-1, 2, math.MinInt, math.MaxInt} {
		checkMin(t, data(node(impl.ReadPair, "", 1, place), end), impl.ReadData{})
		checkMin(t, data(end, node(impl.ReadRow, "", place)), impl.ReadData{})
		checkMin(t, impl.ReadData{Nodes: []impl.ReadNode{end, end}, Roots: []int{0, place}}, impl.ReadData{})
	}
	checkMin(t, impl.ReadData{Roots: []int{0}}, impl.ReadData{})
	for sort := -1; sort <= 11; sort++ {
		for _, count := range []int{0, 1, 2, 3, 40, 41} {
			d := data(end, node(sort, "", make([]int, count)...))
			want := data(end)
			if !slices.Contains(kidCounts(sort), count) {
				want = impl.ReadData{}
			}
			checkMin(t, d, want)
		}
	}
}

// TestP4MinAnotherWay holds ReadMin of many graphs against asking each two nodes of them.
func TestP4MinAnotherWay(t *testing.T) {
	d := &dice{state: 23}
	for range 6000 {
		graph := d.graph(d.upTo(11) + 1)
		checkMin(t, graph, otherMin(rootsOf(graph)))
		if t.Failed() {
			return // one graph is enough to tell
		}
	}
}

// graph makes data of so many nodes, few of them of other looks than the others.
func (d *dice) graph(size int) impl.ReadData {
	g := impl.ReadData{}
	place := func() int { return d.upTo(size - 1) }
	for range size {
		switch d.upTo(9) {
		case 0:
			g.Nodes = append(g.Nodes, node(impl.ReadSymbol, []string{"a", "b"}[d.upTo(1)]))
		case 1:
			g.Nodes = append(g.Nodes, node(impl.ReadNil, ""))
		case 2:
			g.Nodes = append(g.Nodes, node(impl.ReadRow, "", place()))
		case 3:
			g.Nodes = append(g.Nodes, node(impl.ReadRow, "", place(), place(), place()))
		default:
			g.Nodes = append(g.Nodes, node(impl.ReadPair, "", place(), place()))
		}
	}
	for range d.upTo(3) {
		g.Roots = append(g.Roots, place())
	}
	return g
}

// TestP4MinOfDeepData has data that are deep, and that go around late.
func TestP4MinOfDeepData(t *testing.T) {
	const deep = 100_000
	nodes := []impl.ReadNode{node(impl.ReadNil, "")}
	for i := range deep {
		nodes = append(nodes, node(impl.ReadPair, "", 0, i))
	}
	least := impl.ReadMin(impl.ReadData{Nodes: nodes, Roots: []int{deep}})
	if len(least.Nodes) != deep+1 || least.Nodes[1].Sort != impl.ReadNil || !slices.Equal(least.Nodes[deep].Kids, []int{1, 1}) {
		t.Errorf("%d nodes", len(least.Nodes))
	}
	nodes[0] = node(impl.ReadPair, "", 0, deep)
	if least = impl.ReadMin(impl.ReadData{Nodes: nodes, Roots: []int{deep}}); !equal(least, data(node(impl.ReadPair, "", 0, 0))) {
		t.Errorf("%d nodes", len(least.Nodes))
	}
}
