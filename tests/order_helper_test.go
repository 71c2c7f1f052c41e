package tests

import (
	"math"
	"math/big"
	"slices"
	"strings"
	"testing"
	"unsafe"

	"loop.example/sistab/impl"
)

// withData hands over data whose lists have room behind them, and looks whether all of it stays as it was.
func withData(t *testing.T, d impl.ReadData, do func(d impl.ReadData)) {
	t.Helper()
	roomy, memory := withRoom(d)
	before := slices.Clone(memory)
	behind := node(-5, "room")
	roomy.Nodes = append(roomy.Nodes[:len(roomy.Nodes):len(roomy.Nodes)], behind, behind)[:len(d.Nodes)]
	do(roomy)
	room := roomy.Nodes[len(d.Nodes) : len(d.Nodes)+2]
	if !equal(roomy, d) || !slices.Equal(memory, before) || !equal(impl.ReadData{Nodes: room}, impl.ReadData{Nodes: []impl.ReadNode{behind, behind}}) {
		t.Errorf("%v, or behind its lists, was written into: %v, %v, %v", d, roomy, memory, room)
	}
}

// sharesText says whether the memory of two texts is one.
func sharesText(a string, b string) bool {
	return a != "" && b != "" && unsafe.StringData(a) == unsafe.StringData(b)
}

// firstOf is data with the first root alone.
func firstOf(d impl.ReadData) impl.ReadData {
	return alone(d, 0)
}

// hashBounds are some that TabHash may be given.
var hashBounds = []int{1, 2, 3, 7, 256, 65520, 65521, 65522, 1 << 32, math.MaxInt}

// checkCmp has two data, and which of them is less; it looks at what holds of any two.
func checkCmp(t *testing.T, a impl.ReadData, b impl.ReadData, want int) {
	t.Helper()
	if side := askCmp(t, a, b); side != want {
		t.Errorf("%v and %v: %d, not %d", a, b, side, want)
	}
}

// askCmp compares two data both ways, holds it against the other way to compare, and tells it.
func askCmp(t *testing.T, a impl.ReadData, b impl.ReadData) int {
	t.Helper()
	side, back := 0, 0
	withData(t, a, func(a impl.ReadData) {
		withData(t, b, func(b impl.ReadData) {
			side, back = impl.TabCmp(a, b), impl.TabCmp(b, a)
		})
	})
	if side < -1 || side > 1 || back != -side {
		t.Errorf("%v and %v: %d, but the other way %d", a, b, side, back)
	}
	if !impl.ReadOk(a) || !impl.ReadOk(b) || len(a.Roots) == 0 || len(b.Roots) == 0 {
		return side
	}
	if want := otherCmp(a, b); side != want {
		t.Errorf("%v and %v: %d, the other way to compare says %d", a, b, side, want)
	}
	if same := followedSame(firstOf(a), firstOf(b)); same != (side == 0) || same != impl.ReadSame(firstOf(a), firstOf(b)) {
		t.Errorf("%v and %v: %d, but the same %v", a, b, side, same)
	}
	for _, most := range hashBounds {
		if x, y := impl.TabHash(a, most), impl.TabHash(b, most); side == 0 && x != y {
			t.Errorf("%v and %v are the same, but have the hashes %d and %d below %d", a, b, x, y, most)
		}
	}
	return side
}

// datumOf is the data of a text, which has no fault.
func datumOf(t *testing.T, text string) impl.ReadData {
	t.Helper()
	d, fault := parse(t, text)
	if fault.Code != 0 {
		t.Fatalf("%s: fault %+v", short(text), fault)
	}
	return d
}

// checkCmpTexts has the texts of two data, and which of them is less.
func checkCmpTexts(t *testing.T, a string, b string, want int) {
	t.Helper()
	checkCmp(t, datumOf(t, a), datumOf(t, b), want)
}

// checkRising has the texts of data each of which is less than all behind it.
func checkRising(t *testing.T, texts ...string) {
	t.Helper()
	all := []impl.ReadData{}
	for _, text := range texts {
		all = append(all, datumOf(t, text))
	}
	checkRisingData(t, all...)
}

func checkRisingData(t *testing.T, all ...impl.ReadData) {
	t.Helper()
	for i, a := range all {
		for k, b := range all {
			checkCmp(t, a, b, sign(i-k))
		}
	}
}

func sign(i int) int {
	return max(-1, min(1, i))
}

// checkOrder has an order of all of some data, by any three of them.
func checkOrder(t *testing.T, all []impl.ReadData) {
	t.Helper()
	sides := make([][]int, len(all))
	for i, a := range all {
		for _, b := range all {
			sides[i] = append(sides[i], askCmp(t, a, b))
		}
	}
	for i := range all {
		for k := range all {
			for n := range all {
				if first, second, both := sides[i][k], sides[k][n], sides[i][n]; first <= 0 && second <= 0 && both != min(first, second) {
					t.Fatalf("%v, %v, %v: %d and %d, but %d", all[i], all[k], all[n], first, second, both)
				}
			}
		}
	}
}

// What follows is another way to compare: how far down each two nodes first differ is asked of their Kids until nothing changes; then the way there is gone.

// otherCmp is what TabCmp must tell of data that are ok and have Roots.
func otherCmp(a impl.ReadData, b impl.ReadData) int {
	far := farthest(a, b)
	x, y := a.Roots[0], b.Roots[0]
	if far[x][y] == never {
		return 0
	}
	for far[x][y] > 0 {
		i := 0
		for far[a.Nodes[x].Kids[i]][b.Nodes[y].Kids[i]] != far[x][y]-1 {
			i++
		}
		x, y = a.Nodes[x].Kids[i], b.Nodes[y].Kids[i]
	}
	return otherLooks(a.Nodes[x], b.Nodes[y])
}

const never = math.MaxInt

// farthest has by two nodes how many Kids below them they first differ; never, if they do not.
func farthest(a impl.ReadData, b impl.ReadData) [][]int {
	far := make([][]int, len(a.Nodes))
	for x := range far {
		far[x] = slices.Repeat([]int{never}, len(b.Nodes))
		for y := range far[x] {
			if otherLooks(a.Nodes[x], b.Nodes[y]) != 0 {
				far[x][y] = 0
			}
		}
	}
	for down, changed := 0, true; changed; down++ { // in each turn those that differ one further down
		changed = false
		for x := range far {
			for y := range far[x] {
				for i := 0; far[x][y] == never && i < len(a.Nodes[x].Kids); i++ {
					if far[a.Nodes[x].Kids[i]][b.Nodes[y].Kids[i]] == down {
						far[x][y], changed = down+1, true
					}
				}
			}
		}
	}
	return far
}

// otherLooks compares two nodes that are ok, but for what their Kids are.
func otherLooks(a impl.ReadNode, b impl.ReadNode) int {
	switch {
	case a.Sort != b.Sort:
		return sign(a.Sort - b.Sort)
	case a.Sort == impl.ReadNumber:
		x, _ := new(big.Rat).SetString(a.Text)
		y, _ := new(big.Rat).SetString(b.Text)
		return x.Cmp(y)
	}
	for i := range min(len(a.Text), len(b.Text)) {
		if a.Text[i] != b.Text[i] {
			return sign(int(a.Text[i]) - int(b.Text[i]))
		}
	}
	if len(a.Text) != len(b.Text) {
		return sign(len(a.Text) - len(b.Text))
	}
	return sign(len(a.Kids) - len(b.Kids))
}

// unrolledCmp compares two data as trees, leaving no pair out; of those that do not differ at that many levels it says 0.
func unrolledCmp(a impl.ReadData, b impl.ReadData, levels int) int {
	level := [][2]int{{a.Roots[0], b.Roots[0]}}
	for range levels {
		below := [][2]int{}
		for _, both := range level {
			x, y := a.Nodes[both[0]], b.Nodes[both[1]]
			if side := otherLooks(x, y); side != 0 {
				return side
			}
			for i := range x.Kids {
				below = append(below, [2]int{x.Kids[i], y.Kids[i]})
			}
		}
		level = below
	}
	return 0
}

// otherSorted is the Roots of what TabSort must tell of data that are ok: each is put in by what is ahead of it.
func otherSorted(d impl.ReadData) []int {
	out := []int{}
	for _, root := range d.Roots {
		at := 0
		for at < len(out) && otherCmp(impl.ReadData{Nodes: d.Nodes, Roots: out[at:]}, impl.ReadData{Nodes: d.Nodes, Roots: []int{root}}) <= 0 {
			at++
		}
		out = slices.Insert(out, at, root)
	}
	return out
}

// checkSort holds promise 10 of data that are ok, and tells what the Roots come to be.
func checkSort(t *testing.T, d impl.ReadData) []int {
	t.Helper()
	roots := []int{}
	withData(t, d, func(d impl.ReadData) {
		got := impl.TabSort(d)
		roots = slices.Clone(got.Roots)
		if want := otherSorted(d); !equal(got, impl.ReadData{Nodes: d.Nodes, Roots: want}) {
			t.Errorf("%v: sorted %v, not with the Roots %v", d, got, want)
		}
		checkSorted(t, d, got)
		for i := range min(len(d.Nodes), len(got.Nodes)) {
			if sharesText(d.Nodes[i].Text, got.Nodes[i].Text) {
				t.Errorf("%v: node %d has its Text in one memory", d, i)
			}
		}
		checkApart(t, got)
		scribble(got)
	})
	return roots
}

// checkSorted has data and what TabSort tells of them: each is not greater than the next, all are there as often, sorted again nothing changes.
func checkSorted(t *testing.T, d impl.ReadData, got impl.ReadData) {
	t.Helper()
	for i := 1; i < len(got.Roots); i++ {
		if impl.TabCmp(alone(got, i-1), alone(got, i)) > 0 {
			t.Errorf("%v: sorted %v, but %d is greater than the next", d, got.Roots, i-1)
		}
	}
	if !slices.Equal(slices.Sorted(slices.Values(got.Roots)), slices.Sorted(slices.Values(d.Roots))) {
		t.Errorf("%v: %v are others", d, got.Roots)
	}
	if again := impl.TabSort(got); !equal(again, got) {
		t.Errorf("%v: sorted %v, again %v", d, got, again)
	}
}

// checkSortTexts has a text, and how its data are written in order.
func checkSortTexts(t *testing.T, text string, want string) {
	t.Helper()
	d := datumOf(t, text)
	checkSort(t, d)
	if got, ok := impl.ReadPrint(impl.TabSort(d)); !ok || got != strings.ReplaceAll(want, " | ", "\n") {
		t.Errorf("%s: sorted %s", short(text), short(got))
	}
}

// otherHash is a number of a node down to a depth, as the document words it.
func otherHash(d impl.ReadData, place int, depth int) int {
	n := d.Nodes[place]
	number := 7*n.Sort + len(n.Kids)
	for i := range len(n.Text) {
		number = (31*number + int(n.Text[i])) % 65521
	}
	if depth > 0 {
		for _, kid := range n.Kids {
			number = (257*number + otherHash(d, kid, depth-1)) % 65521
		}
	}
	return number
}

// checkHash has data that are ok and have Roots: TabHash of each bound is as the document words it.
func checkHash(t *testing.T, d impl.ReadData) {
	t.Helper()
	number := otherHash(d, d.Roots[0], 3)
	withData(t, d, func(d impl.ReadData) {
		for _, most := range hashBounds {
			if got := impl.TabHash(d, most); got != number%most || got < 0 || got >= most {
				t.Errorf("%v: %d below %d, not %d", d, got, most, number%most)
			}
		}
	})
	checkNoHash(t, d, 0, -1, -2, -65521, math.MinInt)
}

// checkNoHash has data, and bounds by which the hash is 0.
func checkNoHash(t *testing.T, d impl.ReadData, bounds ...int) {
	t.Helper()
	for _, most := range bounds {
		if got := impl.TabHash(d, most); got != 0 {
			t.Errorf("%v: %d below %d", d, got, most)
		}
	}
}

// checkHashIs has a text, and the whole number of its first datum.
func checkHashIs(t *testing.T, text string, want int) {
	t.Helper()
	d := datumOf(t, text)
	checkHash(t, d)
	if got := impl.TabHash(d, math.MaxInt); got != want {
		t.Errorf("%s: %d, not %d", short(text), got, want)
	}
}
