package tests

import (
	"fmt"
	"slices"
	"strconv"
	"strings"
	"testing"

	"loop.example/sistab/impl"
)

// A node in words: an atom as its token is (number, symbol, str, character, boolean), the others so.
const null = "nil"

func pair(first int, second int) string { return fmt.Sprint("pair ", []int{first, second}) }
func row(parts ...int) string           { return fmt.Sprint("row ", parts) }
func raws(bytes string) string          { return "raw:" + bytes }

// nodeInWords is a node in words; parts that it must not have show.
func nodeInWords(n impl.ReadNode) string {
	switch bare := len(n.Kids) == 0; {
	case bare && n.Sort > 0 && n.Sort < len(sorts):
		return sorts[n.Sort] + ":" + n.Text
	case bare && n.Sort == impl.ReadNil && n.Text == "":
		return null
	case bare && n.Sort == impl.ReadRaw:
		return raws(n.Text)
	case len(n.Kids) == 2 && n.Sort == impl.ReadPair && n.Text == "":
		return pair(n.Kids[0], n.Kids[1])
	case n.Sort == impl.ReadRow && n.Text == "":
		return row(n.Kids...)
	}
	return fmt.Sprintf("no node %d %q %v", n.Sort, n.Text, n.Kids)
}

// equal holds data against others, node by node; the empty list and the nil list are the same.
func equal(a impl.ReadData, b impl.ReadData) bool {
	return slices.Equal(a.Roots, b.Roots) && slices.EqualFunc(a.Nodes, b.Nodes, func(x, y impl.ReadNode) bool {
		return x.Sort == y.Sort && x.Text == y.Text && slices.Equal(x.Kids, y.Kids)
	})
}

func isNothing(d impl.ReadData) bool { return len(d.Nodes) == 0 && len(d.Roots) == 0 }

// copied shares no list with what it is a copy of.
func copied(d impl.ReadData) impl.ReadData {
	c := impl.ReadData{Roots: slices.Clone(d.Roots), Nodes: slices.Clone(d.Nodes)}
	for i := range c.Nodes {
		c.Nodes[i].Kids = slices.Clone(c.Nodes[i].Kids)
	}
	return c
}

// parse reads a text, and looks at what holds of all texts.
func parse(t *testing.T, text string) (impl.ReadData, impl.ReadFault) {
	t.Helper()
	d, fault := impl.ReadParse(text)
	switch {
	case fault.Code != 0 && !isNothing(d):
		t.Errorf("%s: %v beside the fault %+v", short(text), d, fault)
	case fault.At < 0 || fault.At > len(text) || fault.Code == 0 && fault.At != 0:
		t.Errorf("%s: fault %+v", short(text), fault)
	case !impl.ReadOk(d):
		t.Errorf("%s: %v is not ok", short(text), d)
	case !equal(impl.ReadMin(d), d):
		t.Errorf("%s: %v, but ReadMin of it %v", short(text), d, impl.ReadMin(d))
	}
	return d, fault
}

// checkData has a text with data of just these roots and nodes.
func checkData(t *testing.T, text string, roots []int, nodes ...string) {
	t.Helper()
	d, fault := parse(t, text)
	got := []string{}
	for _, n := range d.Nodes {
		got = append(got, nodeInWords(n))
	}
	if fault.Code != 0 || !slices.Equal(d.Roots, roots) || !slices.Equal(got, nodes) {
		t.Errorf("%s: %v %q %+v, not %v %q", short(text), d.Roots, got, fault, roots, nodes)
	}
}

// checkDatum has a text with one datum.
func checkDatum(t *testing.T, text string, nodes ...string) {
	t.Helper()
	checkData(t, text, []int{0}, nodes...)
}

// checkReadsAs has two texts that are the same data.
func checkReadsAs(t *testing.T, text string, other string) {
	t.Helper()
	d, fault := parse(t, text)
	want, none := parse(t, other)
	if fault.Code != 0 || none.Code != 0 || !equal(d, want) {
		t.Errorf("%s: %v %+v; but %s: %v %+v", short(text), d, fault, short(other), want, none)
	}
}

// here stands ahead of the token in a text that has the fault, and is no part of the text.
const here = "«"

// checkReadFault has a text with a fault: where here is, or at 0, if it is nowhere.
func checkReadFault(t *testing.T, text string, code int) {
	t.Helper()
	at := max(strings.Index(text, here), 0)
	text = strings.Replace(text, here, "", 1)
	if d, fault := parse(t, text); fault != (impl.ReadFault{At: at, Code: code}) {
		t.Errorf("%s: %v %+v, not code %d at %d", short(text), d, fault, code, at)
	}
}

// checkApart has data none of whose lists share any memory, their spare room included.
func checkApart(t *testing.T, d impl.ReadData) {
	t.Helper()
	lists := []*[]int{&d.Roots}
	for i := range d.Nodes {
		lists = append(lists, &d.Nodes[i].Kids)
	}
	for i, list := range lists {
		kept := copied(d)
		whole := (*list)[:cap(*list)]
		was := slices.Clone(whole)
		for k := range whole {
			whole[k] = -7
		}
		for k, other := range lists {
			keptList := kept.Roots
			if k > 0 {
				keptList = kept.Nodes[k-1].Kids
			}
			if k != i && !slices.Equal(*other, keptList) {
				t.Errorf("lists %d and %d of %v share memory", i, k, kept)
			}
		}
		copy(whole, was)
	}
}

// names makes so many symbols that differ, with a space between.
func names(name string, often int) string {
	out := []string{}
	for i := range often {
		out = append(out, name+strconv.Itoa(i))
	}
	return strings.Join(out, " ")
}

// What follows is another way to read: by recursion, each datum a thing of its own, the same things found by asking each two of them.

type thing struct {
	sort int
	text string
	kids []*thing
	is   *thing // of what stood for a datum that was not read yet: that datum
}

func (x *thing) found() *thing {
	for x.is != nil {
		x = x.is
	}
	return x
}

type otherReader struct {
	tokens []impl.ReadToken
	at     int
	labels map[string]*thing
	unread map[*thing]bool
}

func (r *otherReader) peek() impl.ReadToken {
	if r.at < len(r.tokens) {
		return r.tokens[r.at]
	}
	return impl.ReadToken{}
}

func (r *otherReader) next() impl.ReadToken {
	token := r.peek()
	r.at++
	return token
}

func (r *otherReader) fail(token impl.ReadToken, code int) {
	panic(impl.ReadFault{At: token.At, Code: code})
}

// skip reads over what is left out, which some way to read reads.
func (r *otherReader) skip(way func() *thing) {
	for r.peek().Kind == impl.ReadDrop {
		r.at++
		way()
	}
}

// outermost reads a datum that is in no other.
func (r *otherReader) outermost() *thing {
	r.skip(r.outermost)
	r.labels, r.unread = map[string]*thing{}, map[*thing]bool{}
	return r.datum()
}

func (r *otherReader) datum() *thing {
	r.skip(r.datum)
	switch token := r.next(); token.Kind {
	case impl.ReadAtom:
		return &thing{sort: token.Sort, text: token.Text}
	case impl.ReadOpen:
		return r.list()
	case impl.ReadQuote:
		end := &thing{sort: impl.ReadPair, kids: []*thing{r.datum(), {sort: impl.ReadNil}}}
		return &thing{sort: impl.ReadPair, kids: []*thing{{sort: impl.ReadSymbol, text: token.Text}, end}}
	case impl.ReadVector:
		return r.vector()
	case impl.ReadBytes:
		return r.bytes()
	case impl.ReadMark:
		return r.marked(token)
	case impl.ReadBack:
		if r.labels[token.Text] == nil {
			r.fail(token, 4)
		}
		return r.labels[token.Text].found()
	case impl.ReadDot:
		r.fail(token, 3)
	default:
		r.fail(token, 2)
	}
	return nil
}

// list reads what is behind the `(`, up to its `)`.
func (r *otherReader) list() *thing {
	parts := []*thing{}
	end := &thing{sort: impl.ReadNil}
	for r.skip(r.datum); r.peek().Kind != impl.ReadClose; r.skip(r.datum) {
		if r.peek().Kind == impl.ReadDot && len(parts) > 0 {
			end = r.behindDot()
			break
		}
		parts = append(parts, r.datum())
	}
	r.at++
	for _, part := range slices.Backward(parts) {
		end = &thing{sort: impl.ReadPair, kids: []*thing{part, end}}
	}
	return end
}

func (r *otherReader) behindDot() *thing {
	r.at++
	if r.peek().Kind == impl.ReadClose {
		r.fail(r.peek(), 3)
	}
	end := r.datum()
	r.skip(r.datum)
	switch r.peek().Kind {
	case impl.ReadClose:
	case 0:
		r.fail(r.peek(), 2)
	default:
		r.fail(r.peek(), 3)
	}
	return end
}

func (r *otherReader) vector() *thing {
	whole := &thing{sort: impl.ReadRow}
	for r.skip(r.datum); r.peek().Kind != impl.ReadClose; r.skip(r.datum) {
		whole.kids = append(whole.kids, r.datum())
	}
	if token := r.next(); len(whole.kids) > 40 {
		r.fail(token, 6)
	}
	return whole
}

func (r *otherReader) bytes() *thing {
	whole := &thing{sort: impl.ReadRaw}
	for r.peek().Kind != impl.ReadClose {
		token := r.next()
		if token.Kind == 0 {
			r.fail(token, 2)
		}
		number := -1
		for b := range 256 {
			if token.Kind == impl.ReadAtom && token.Sort == impl.ReadNumber && token.Text == strconv.Itoa(b) {
				number = b
			}
		}
		if number < 0 || len(whole.text) == 200 {
			r.fail(token, 5)
		}
		whole.text += string([]byte{byte(number)})
	}
	r.at++
	return whole
}

func (r *otherReader) marked(token impl.ReadToken) *thing {
	if r.labels[token.Text] != nil {
		r.fail(token, 4)
	}
	label := &thing{}
	r.labels[token.Text], r.unread[label] = label, true
	found := r.datum().found()
	if r.unread[found] {
		r.fail(token, 4)
	}
	label.is = found
	delete(r.unread, label)
	return found
}

// otherParse is what ReadParse must tell of a text.
func otherParse(text string) (d impl.ReadData, fault impl.ReadFault) {
	tokens, fault := impl.ReadTokens(text)
	if fault.Code != 0 {
		return impl.ReadData{}, fault
	}
	defer func() {
		if caught := recover(); caught != nil {
			d, fault = impl.ReadData{}, caught.(impl.ReadFault)
		}
	}()
	r := otherReader{tokens: tokens}
	roots := []*thing{}
	for r.at < len(tokens) {
		if r.peek().Kind == impl.ReadDrop {
			r.at++
			r.outermost()
			continue
		}
		roots = append(roots, r.outermost())
	}
	d = otherMin(roots)
	if len(d.Nodes) > 80 || len(d.Roots) > 12 {
		r.fail(impl.ReadToken{}, 6)
	}
	return d, impl.ReadFault{}
}

// otherMin is what ReadMin must tell of things.
func otherMin(roots []*thing) impl.ReadData {
	all := comeTo(nil, roots)
	place := map[*thing]int{}
	for i, x := range all {
		place[x] = i
	}
	differ := differences(all, place)
	firsts, d := map[*thing]int{}, impl.ReadData{}
	var tell func(x *thing) int
	tell = func(x *thing) int {
		for _, y := range all {
			if !differ[place[x.found()]][place[y]] {
				x = y // the first that is the same stands for all
				break
			}
		}
		if at, told := firsts[x]; told {
			return at
		}
		at := len(d.Nodes)
		firsts[x] = at
		d.Nodes = append(d.Nodes, impl.ReadNode{Sort: x.sort, Text: x.text})
		for _, kid := range x.kids {
			kidAt := tell(kid)
			d.Nodes[at].Kids = append(d.Nodes[at].Kids, kidAt)
		}
		return at
	}
	for _, root := range roots {
		d.Roots = append(d.Roots, tell(root))
	}
	return d
}

// comeTo is all that was come to, and what is come to from some things.
func comeTo(all []*thing, from []*thing) []*thing {
	for _, x := range from {
		if x = x.found(); !slices.Contains(all, x) {
			all = comeTo(append(all, x), x.kids)
		}
	}
	return all
}

// differences says of each two things whether they differ: they do if they look so, and if some of their Kids do.
func differences(all []*thing, place map[*thing]int) [][]bool {
	differ := make([][]bool, len(all))
	for i, x := range all {
		differ[i] = make([]bool, len(all))
		for k, y := range all {
			differ[i][k] = x.sort != y.sort || x.text != y.text || len(x.kids) != len(y.kids)
		}
	}
	for changed := true; changed; {
		changed = false
		for i, x := range all {
			for k, y := range all {
				for n := 0; !differ[i][k] && n < len(x.kids); n++ {
					if differ[place[x.kids[n].found()]][place[y.kids[n].found()]] {
						differ[i][k], changed = true, true
					}
				}
			}
		}
	}
	return differ
}

// thingsOf is data as things, one a node.
func thingsOf(d impl.ReadData) []*thing {
	all := make([]*thing, len(d.Nodes))
	for i, n := range d.Nodes {
		all[i] = &thing{sort: n.Sort, text: n.Text}
	}
	for i, n := range d.Nodes {
		for _, kid := range n.Kids {
			all[i].kids = append(all[i].kids, all[kid])
		}
	}
	return all
}

// rootsOf is the things of data that are its roots.
func rootsOf(d impl.ReadData) []*thing {
	all := thingsOf(d)
	roots := []*thing{}
	for _, root := range d.Roots {
		roots = append(roots, all[root])
	}
	return roots
}

// checkAnotherWay holds what is read of a text against the other way.
func checkAnotherWay(t *testing.T, text string) impl.ReadFault {
	t.Helper()
	d, fault := parse(t, text)
	want, wanted := otherParse(text)
	if fault != wanted || !equal(d, want) {
		t.Errorf("%s: %v %+v, not %v %+v", short(text), d, fault, want, wanted)
	}
	return fault
}
