package tests

import (
	"math/big"
	"strings"
	"testing"

	"loop.example/sistab/impl"
)

var radixes = []int{2, 8, 10, 16}

// dice gives the same numbers in every run.
type dice struct{ state uint64 }

func (d *dice) upTo(most int) int {
	d.state = d.state*6364136223846793005 + 1442695040888963407
	return int((d.state >> 33) % uint64(most+1))
}

// digits makes a whole number of up to so many digits, small and large ones alike often.
func (d *dice) digits(most int) *big.Int {
	n := new(big.Int)
	for i := d.upTo(most - 1); i >= 0; i-- {
		digit := int64(d.upTo(9))
		if d.upTo(3) == 0 {
			digit = []int64{0, 9}[d.upTo(1)]
		}
		n.Mul(n, big.NewInt(10)).Add(n, big.NewInt(digit))
	}
	return n
}

// ratio makes a number of up to so many digits above and below.
func (d *dice) ratio(most int) *big.Rat {
	down := d.digits(most)
	if down.Sign() == 0 {
		down.SetInt64(1)
	}
	up := d.digits(most)
	if d.upTo(1) == 0 {
		up.Neg(up)
	}
	return new(big.Rat).SetFrac(up, down)
}

// numOf is a number as the document writes it; false, if it is too big.
func numOf(r *big.Rat) (impl.Num, bool) {
	up := new(big.Int).Abs(r.Num()).String()
	down := r.Denom().String()
	if len(up) > impl.NumMaxDigits || len(down) > impl.NumMaxDigits {
		return impl.Num{}, false
	}
	return impl.Num{Neg: r.Sign() < 0, Up: up, Down: down}, true
}

func ratOf(n impl.Num) *big.Rat {
	r, _ := new(big.Rat).SetString(n.Up + "/" + n.Down)
	if n.Neg {
		r.Neg(r)
	}
	return r
}

// printed is how a number is written in a radix.
func printed(n impl.Num, radix int) string {
	r := ratOf(n)
	if n.Down == "1" {
		return r.Num().Text(radix)
	}
	return r.Num().Text(radix) + "/" + r.Denom().Text(radix)
}

func ten(power int) *big.Int {
	return new(big.Int).Exp(big.NewInt(10), big.NewInt(int64(power)), nil)
}

func nines(often int) string { return strings.Repeat("9", often) }

func noughts(often int) string { return strings.Repeat("0", often) }

func mustParse(t *testing.T, text string) impl.Num {
	t.Helper()
	n, ok := impl.NumParse(text, 10)
	if !ok {
		t.Fatalf("%q is not read", text)
	}
	return n
}

// notOk are numbers that are not ok, by what is wrong with them.
func notOk() map[string]impl.Num {
	long := nines(impl.NumMaxDigits + 1)
	return map[string]impl.Num{
		"nothing":                   {},
		"nothing above":             {Up: "", Down: "1"},
		"nothing below":             {Up: "1", Down: ""},
		"nought ahead above":        {Up: "01", Down: "1"},
		"nought ahead below":        {Up: "1", Down: "02"},
		"noughts for nought":        {Up: "00", Down: "1"},
		"nought below":              {Up: "1", Down: "0"},
		"nought over nought":        {Up: "0", Down: "0"},
		"nought over two":           {Up: "0", Down: "2"},
		"nought below nought":       {Neg: true, Up: "0", Down: "1"},
		"one digit more above":      {Up: long, Down: "1"},
		"one digit more below":      {Up: "1", Down: long},
		"very long above":           {Up: strings.Repeat("7", 100_000), Down: "1"},
		"very long below":           {Up: "1", Down: strings.Repeat("7", 100_000)},
		"not in lowest terms":       {Up: "2", Down: "4"},
		"whole, not in lowest":      {Up: "4", Down: "2"},
		"the same twice":            {Up: "7", Down: "7"},
		"long, not in lowest terms": {Up: "3" + noughts(58) + "6", Down: "6" + noughts(58) + "3"},
		"sign above":                {Up: "-1", Down: "1"},
		"plus above":                {Up: "+1", Down: "1"},
		"sign below":                {Up: "1", Down: "-1"},
		"letter above":              {Up: "1a", Down: "1"},
		"letter below":              {Up: "1", Down: "f"},
		"capital above":             {Up: "A", Down: "1"},
		"next to the digits":        {Up: "1/", Down: "1"},
		"behind the digits":         {Up: "1:", Down: "1"},
		"space above":               {Up: " 1", Down: "1"},
		"newline below":             {Up: "1", Down: "3\n"},
		"dot above":                 {Up: "1.5", Down: "1"},
		"no character above":        {Up: "1\xff", Down: "1"},
		"no character below":        {Up: "1", Down: "\x80"},
		"nought byte":               {Up: "1\x00", Down: "1"},
		"digits of other scripts":   {Up: "١", Down: "1"},
		"wide digits":               {Up: "1", Down: "７"},
	}
}
