package tests

import (
	"fmt"
	"strings"
	"testing"

	"loop.example/sistab/impl"
)

// checkTold has a text, and what TabSession answers.
func checkTold(t *testing.T, text string, want string) {
	t.Helper()
	if got := askTold(t, text); got != want {
		t.Errorf("%s: %s, not %s", short(text), short(got), short(want))
	}
}

// askTold asks a session, twice, and holds it against the other way to answer.
func askTold(t *testing.T, text string) string {
	t.Helper()
	got, again := impl.TabSession(text), impl.TabSession(text)
	if want := otherTold(text); got != want || again != want {
		t.Errorf("%q: %q, then %q, not %q", text, got, again, want)
	}
	if isPieceOf(got, text) {
		t.Errorf("%q: %q has one memory with it", text, got)
	}
	return got
}

// checkTurns has lines and what each is answered, in turn.
func checkTurns(t *testing.T, turns ...string) {
	t.Helper()
	text, want := "", ""
	for i := 0; i < len(turns); i += 2 {
		text += turns[i] + "\n"
		want += turns[i+1] + "\n"
	}
	checkTold(t, text, want)
	if last := turns[len(turns)-2]; last != "" {
		checkTold(t, strings.TrimSuffix(text, "\n"), want) // without a newline at the end
	}
}

// checkLine has a line, and what it is answered by an empty table, by one that has keys, by one with no room for keys, and by one with no room for nodes.
func checkLine(t *testing.T, line string, want string) {
	t.Helper()
	checkTurns(t, line, want)
	checkTurns(t, "put a", "ok", "put (b . c)", "ok", line, want)
	checkTurns(t, append(fullOfKeys(), line, want)...)
	checkTurns(t, append(fullOfNodes(), line, want)...)
}

// checkLineFault has a line with a fault: where here is, or, if it is nowhere, right behind the symbol, which has so many bytes.
func checkLineFault(t *testing.T, line string, symbol int, code int) {
	t.Helper()
	at := strings.Index(line, here)
	if at < 0 {
		at = symbol
	}
	checkLine(t, strings.Replace(line, here, "", 1), fmt.Sprintf("fault %d at %d", code, at))
}

// fullOfKeys are turns behind which a table has all keys that may be: 0 to 19.
func fullOfKeys() []string {
	turns := []string{}
	for i := range impl.TabMaxKeys {
		turns = append(turns, fmt.Sprintf("put %d", i), "ok")
	}
	return turns
}

// fullOfNodes are turns behind which a table has all nodes that may be: 39 pairs, what is in these, and the symbol z.
func fullOfNodes() []string {
	return []string{"put (" + names("a", 39) + ")", "ok", "put z", "ok"}
}

// What follows is another way to answer: each key is a datum by itself, the nodes are but counted.

type otherTable struct {
	keys  []impl.ReadData
	vals  []string
	nodes int
}

// otherTold is what TabSession must answer.
func otherTold(text string) string {
	if len(text) > 4000 {
		return "too long\n"
	}
	out, table := "", otherTable{}
	for _, line := range strings.SplitAfter(text, "\n") {
		if line != "" {
			out += table.answer(strings.TrimSuffix(line, "\n")) + "\n"
		}
	}
	return out
}

func (x *otherTable) answer(line string) string {
	first, behind, fault := otherDatum(portAt(line, 0))
	if fault.Code != 0 || isNothing(first) || first.Nodes[0].Sort != impl.ReadSymbol {
		return "bad"
	}
	d, fault := otherParse(line[behind.At:])
	if fault.Code != 0 {
		return fmt.Sprintf("fault %d at %d", fault.Code, behind.At+fault.At)
	}
	switch name, count := first.Nodes[0].Text, len(d.Roots); {
	case name == "keys" && count == 0:
		told := []string{}
		for i, key := range x.keys {
			told = append(told, otherLine(key, false)+" "+x.vals[i])
		}
		return strings.Join(told, ", ")
	case name == "sort":
		told := "sorted"
		for _, root := range otherSorted(d) {
			told += " " + otherLine(impl.ReadData{Nodes: d.Nodes, Roots: []int{root}}, false)
		}
		return told
	case count != 1:
		return "bad"
	case x.nodes+len(d.Nodes) > 80:
		return "full"
	default:
		return x.one(name, d)
	}
}

// one answers a line with one datum that there is room for.
func (x *otherTable) one(name string, d impl.ReadData) string {
	at := len(x.keys)
	for i, key := range x.keys {
		if followedSame(key, d) {
			at = i
		}
	}
	there := at < len(x.keys)
	switch val := otherLine(d, false); {
	case name == "put" && (len(val) > 200 || !there && at == 20):
		return "full"
	case name == "put" && there:
		x.vals[at] = val
	case name == "put":
		x.keys, x.vals = append(x.keys, d), append(x.vals, val)
	case name == "get" && there:
		return x.vals[at]
	case name == "drop" && there:
		x.keys, x.vals = append(x.keys[:at:at], x.keys[at+1:]...), append(x.vals[:at:at], x.vals[at+1:]...)
	case name == "get", name == "drop":
		return "none"
	default:
		return "bad"
	}
	x.nodes += len(d.Nodes)
	return "ok"
}
