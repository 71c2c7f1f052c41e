package tests

import (
	"math/big"
	"strings"
	"testing"

	"loop.example/sistab/impl"
)

// work is one of the four ways to make a number of two, and the same by another arithmetic.
type work struct {
	name string
	do   func(a, b impl.Num) (impl.Num, int)
	rat  func(z, a, b *big.Rat) *big.Rat
}

var works = []work{
	{"sum", impl.NumAdd, (*big.Rat).Add},
	{"difference", impl.NumSub, (*big.Rat).Sub},
	{"product", impl.NumMul, (*big.Rat).Mul},
	{"quotient", impl.NumDiv, (*big.Rat).Quo},
}

func checkWork(t *testing.T, w work, a, b impl.Num) {
	t.Helper()
	got, code := w.do(a, b)
	want, wantCode := impl.Num{}, 2
	if w.name != "quotient" || b.Up != "0" {
		var ok bool
		want, ok = numOf(w.rat(new(big.Rat), ratOf(a), ratOf(b)))
		wantCode = 0
		if !ok {
			wantCode = 3
		}
	}
	if got != want || code != wantCode {
		t.Errorf("%s of %+v and %+v: %+v %d, not %+v %d", w.name, a, b, got, code, want, wantCode)
	}
	if code == 0 && !impl.NumOk(got) {
		t.Errorf("%s of %+v and %+v is not ok: %+v", w.name, a, b, got)
	}
}

func checkPair(t *testing.T, a, b impl.Num) {
	t.Helper()
	for _, w := range works {
		checkWork(t, w, a, b)
	}
	want := ratOf(a).Cmp(ratOf(b))
	if got := impl.NumCmp(a, b); got != want {
		t.Errorf("%+v and %+v compared: %d, not %d", a, b, got, want)
	}
}

// smallNums are nought, and numbers of either sign, whole and not.
func smallNums(t *testing.T) []impl.Num {
	var out []impl.Num
	seen := map[impl.Num]bool{}
	for down := int64(1); down <= 4; down++ {
		for up := int64(-5); up <= 5; up++ {
			n := mustNum(t, big.NewRat(up, down))
			if !seen[n] {
				seen[n] = true
				out = append(out, n)
			}
		}
	}
	return out
}

// must does what can't be too big.
func must(t *testing.T, do func(a, b impl.Num) (impl.Num, int), a, b impl.Num) impl.Num {
	t.Helper()
	n, code := do(a, b)
	if code != 0 {
		t.Fatalf("%+v and %+v: code %d", a, b, code)
	}
	return n
}

func TestP15Pairs(t *testing.T) {
	small := smallNums(t)
	for _, a := range small {
		for _, b := range small {
			checkPair(t, a, b)
			if same := impl.NumCmp(a, b) == 0; same != (a == b) {
				t.Errorf("%+v and %+v: the same %v", a, b, same)
			}
		}
	}
}

func TestP15FieldLaws(t *testing.T) {
	nought, one := impl.NumInt(0), impl.NumInt(1)
	for _, a := range smallNums(t) {
		if must(t, impl.NumAdd, a, nought) != a || must(t, impl.NumMul, a, one) != a || must(t, impl.NumSub, a, a) != nought || must(t, impl.NumMul, a, nought) != nought {
			t.Errorf("%+v with nought and one", a)
		}
		if a != nought && (must(t, impl.NumDiv, a, a) != one || must(t, impl.NumMul, must(t, impl.NumDiv, one, a), a) != one) {
			t.Errorf("%+v by itself", a)
		}
		for _, b := range smallNums(t) {
			checkLawsOfTwo(t, a, b)
			for _, c := range smallNums(t) {
				checkLawsOfThree(t, a, b, c)
			}
		}
	}
}

func checkLawsOfTwo(t *testing.T, a, b impl.Num) {
	sum, product := must(t, impl.NumAdd, a, b), must(t, impl.NumMul, a, b)
	if sum != must(t, impl.NumAdd, b, a) || product != must(t, impl.NumMul, b, a) {
		t.Errorf("%+v and %+v, turned round", a, b)
	}
	if must(t, impl.NumSub, sum, b) != a || b.Up != "0" && must(t, impl.NumDiv, product, b) != a {
		t.Errorf("%+v and %+v, there and back", a, b)
	}
	if impl.NumCmp(a, b) != -impl.NumCmp(b, a) || impl.NumCmp(a, b) != impl.NumCmp(must(t, impl.NumSub, a, b), impl.NumInt(0)) {
		t.Errorf("%+v and %+v, in order", a, b)
	}
}

func checkLawsOfThree(t *testing.T, a, b, c impl.Num) {
	ab, bc := must(t, impl.NumAdd, a, b), must(t, impl.NumAdd, b, c)
	if must(t, impl.NumAdd, ab, c) != must(t, impl.NumAdd, a, bc) {
		t.Errorf("sum of %+v, %+v, %+v", a, b, c)
	}
	pq, qr := must(t, impl.NumMul, a, b), must(t, impl.NumMul, b, c)
	if must(t, impl.NumMul, pq, c) != must(t, impl.NumMul, a, qr) {
		t.Errorf("product of %+v, %+v, %+v", a, b, c)
	}
	if must(t, impl.NumMul, a, bc) != must(t, impl.NumAdd, pq, must(t, impl.NumMul, a, c)) {
		t.Errorf("product of %+v and a sum of %+v and %+v", a, b, c)
	}
	if impl.NumCmp(a, b) < 0 && (impl.NumCmp(b, c) < 0 && impl.NumCmp(a, c) >= 0 || impl.NumCmp(must(t, impl.NumAdd, a, c), bc) >= 0) {
		t.Errorf("order of %+v, %+v, %+v", a, b, c)
	}
}

// TestP15AnyRatios holds the field against another arithmetic, in numbers of all lengths.
func TestP15AnyRatios(t *testing.T) {
	d := &dice{state: 3}
	for i := range 3000 {
		most := []int{2, 9, 15, 30, 60}[i%5]
		a, b := mustNum(t, d.ratio(most)), mustNum(t, d.ratio(most))
		checkPair(t, a, b)
		if d.upTo(3) == 0 {
			checkPair(t, a, a)
		}
	}
}

// TestP15Limits has results just at the limit, just over it, and over it only ahead of lowest terms.
func TestP15Limits(t *testing.T) {
	most, least60 := nines(60), "1"+noughts(59)
	for i, c := range []struct {
		name, a, b string
		want       string
		code       int
	}{
		{"sum", most, "0", most, 0},
		{"sum", nines(59) + "8", "1", most, 0},
		{"sum", most, "1", "", 3},
		{"sum", "-" + most, "-1", "", 3},
		{"sum", "-" + most, "1", "-" + nines(59) + "8", 0},
		{"sum", "-" + most, most, "0", 0},
		{"sum", "1/1" + noughts(30), "1/" + nines(30), "1" + nines(30) + "/" + nines(30) + noughts(30), 0},
		{"sum", "1/1" + noughts(30), "1/1" + noughts(29) + "1", "", 3},
		{"sum", most, "1/2", "", 3},
		{"sum", "1" + noughts(58), "1/2", "2" + noughts(57) + "1/2", 0},
		{"sum", "1/2" + noughts(59), "1/2" + noughts(59), "1/" + least60, 0},
		{"sum", "1/" + least60, "-1/" + least60, "0", 0},
		{"sum", "1/" + most, "1/" + least60, "", 3},
		{"sum", most + "/2", "1/2", "5" + noughts(59), 0},
		{"sum", nines(59) + "8/17", "1/17", most + "/17", 0},
		{"sum", most + "/17", "1/17", "", 3},
		{"difference", most, "-1", "", 3},
		{"difference", nines(59) + "8", "-1", most, 0},
		{"difference", "-" + most, "1", "", 3},
		{"difference", "-" + nines(59) + "8", "1", "-" + most, 0},
		{"difference", most, most, "0", 0},
		{"difference", "3/2" + noughts(59), "1/2" + noughts(59), "1/" + least60, 0},
		{"difference", "1/" + nines(30), "1/1" + noughts(30), "1/" + nines(30) + noughts(30), 0},
		{"difference", "1/1" + noughts(30), "1/1" + noughts(29) + "1", "", 3},
		{"product", "1" + noughts(30), "1" + noughts(29), least60, 0},
		{"product", "1" + noughts(30), "-1" + noughts(30), "", 3},
		{"product", "-1/1" + noughts(30), "1/1" + noughts(29), "-1/" + least60, 0},
		{"product", "1/1" + noughts(30), "1/1" + noughts(30), "", 3},
		{"product", most, "1/" + most, "1", 0},
		{"product", most + "/" + least60, least60 + "/" + most, "1", 0},
		{"product", "-" + most, "1/3", "-" + strings.Repeat("3", 60), 0},
		{"product", "5" + noughts(59), "2", "", 3},
		{"product", "5" + noughts(59), "2/10", least60, 0},
		{"product", most, "0", "0", 0},
		{"product", most, most, "", 3},
		{"quotient", least60, "1/9", "9" + noughts(59), 0},
		{"quotient", least60, "-1/10", "", 3},
		{"quotient", "1/" + least60, "9", "1/9" + noughts(59), 0},
		{"quotient", "1/" + least60, "10", "", 3},
		{"quotient", "-" + most, most, "-1", 0},
		{"quotient", most + "/" + least60, most + "/" + least60, "1", 0},
		{"quotient", "1", most, "1/" + most, 0},
		{"quotient", "0", most, "0", 0},
		{"quotient", most + "/" + least60, "1/1" + noughts(58), most + "/10", 0},
		{"quotient", most + "/" + least60, "1/11", "", 3},
		{"quotient", most + "/" + least60, "1/5", most + "/2" + noughts(58), 0},
	} {
		a, b := mustParse(t, c.a), mustParse(t, c.b)
		for _, w := range works {
			checkWork(t, w, a, b)
			if w.name != c.name {
				continue
			}
			n, code := w.do(a, b)
			if code != c.code || impl.NumPrint(n, 10) != c.want {
				t.Errorf("case %d, %s: %+v %d", i, c.name, n, code)
			}
		}
	}
}

func TestP15OrderOfLongOnes(t *testing.T) {
	up := []string{
		"-" + nines(60), "-" + nines(59) + "8", "-1" + noughts(59), "-" + nines(59), "-1", "-" + nines(59) + "8/" + nines(60), "-1/2", "-1/" + nines(60),
		"0", "1/" + nines(60), "1/" + nines(59) + "8", "1/2", nines(59) + "8/" + nines(60), "1", nines(60) + "/" + nines(59) + "8", nines(59), "1" + noughts(59), nines(59) + "8", nines(60),
	}
	for i, a := range up {
		for j, b := range up {
			want := 0
			if i < j {
				want = -1
			} else if i > j {
				want = 1
			}
			if got := impl.NumCmp(mustParse(t, a), mustParse(t, b)); got != want {
				t.Errorf("%s and %s: %d, not %d", a, b, got, want)
			}
		}
	}
}

func TestP15NotOk(t *testing.T) {
	good := append(smallNums(t), mustParse(t, nines(60)), mustParse(t, "-1/"+nines(60)))
	for what, bad := range notOk() {
		for _, n := range good {
			checkNotOk(t, what, bad, n)
			checkNotOk(t, what, n, bad)
		}
		checkNotOk(t, what, bad, bad)
		checkNotOk(t, what, bad, impl.Num{Up: "2", Down: "4"})
	}
}

// checkNotOk holds in dividing by nought, too: the code of what is not ok comes first.
func checkNotOk(t *testing.T, what string, a, b impl.Num) {
	t.Helper()
	for _, w := range works {
		if n, code := w.do(a, b); code != 1 || n != (impl.Num{}) {
			t.Errorf("%s, %s: %+v %d", what, w.name, n, code)
		}
	}
	if got := impl.NumCmp(a, b); got != 0 {
		t.Errorf("%s, compared: %d", what, got)
	}
}

func TestP15ByNought(t *testing.T) {
	for _, a := range append(smallNums(t), mustParse(t, nines(60)), mustParse(t, "1/"+nines(60))) {
		if n, code := impl.NumDiv(a, impl.NumInt(0)); code != 2 || n != (impl.Num{}) {
			t.Errorf("%+v by nought: %+v %d", a, n, code)
		}
	}
}
