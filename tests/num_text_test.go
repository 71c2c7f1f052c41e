package tests

import (
	"math"
	"math/big"
	"strconv"
	"strings"
	"testing"

	"loop.example/sistab/impl"
)

func checkRead(t *testing.T, text string, radix int, want string) {
	t.Helper()
	n, ok := impl.NumParse(text, radix)
	if !ok {
		t.Errorf("%q in %d is not read", text, radix)
		return
	}
	if !impl.NumOk(n) {
		t.Errorf("%q in %d: %+v is not ok", text, radix, n)
	}
	if got := printed(n, 10); got != want {
		t.Errorf("%q in %d: %s, not %s", text, radix, got, want)
	}
}

func checkRefused(t *testing.T, text string, radix int) {
	t.Helper()
	if n, ok := impl.NumParse(text, radix); ok || n != (impl.Num{}) {
		t.Errorf("%q in %d: %+v %v, though it is no number", text, radix, n, ok)
	}
}

func TestP1ReadsDecimals(t *testing.T) {
	for text, want := range map[string]string{
		"7": "7", "+7": "7", "-7": "-7", "0": "0", "-0": "0", "+0": "0",
		"007": "7", "-000": "0", "0000000000123456789012345678901234567890": "123456789012345678901234567890",
		"6/4": "3/2", "-6/4": "-3/2", "+6/4": "3/2", "4/6": "2/3", "006/0004": "3/2", "8/4": "2", "0/5": "0", "-0/7": "0",
		"1000000000/3000000000": "1/3", "999999999/1000000000": "999999999/1000000000", "1000000000000000000": "1000000000000000000",
		"1.25": "5/4", "-1.25": "-5/4", "+.5": "1/2", "-.5": "-1/2", "5.": "5", "-5.": "-5", ".0": "0", "0.": "0", "-.0": "0",
		"00.50": "1/2", "0.1": "1/10", "3.000": "3", ".000000001": "1/1000000000", ".0000000005": "1/2000000000", "10.02": "501/50",
	} {
		checkRead(t, text, 10, want)
	}
}

func TestP1ReadsOtherRadixes(t *testing.T) {
	for text, want := range map[string]string{"0": "0", "101": "5", "-101/10": "-5/2", "+0011": "3", "1/1": "1", "100/110": "2/3"} {
		checkRead(t, text, 2, want)
	}
	for text, want := range map[string]string{"17": "15", "-10": "-8", "7/10": "7/8", "0777": "511"} {
		checkRead(t, text, 8, want)
	}
	for text, want := range map[string]string{"ff": "255", "0": "0", "-a/c": "-5/6", "+0deadbeef": "3735928559", "10/f": "16/15", "9a": "154", "bcdef": "773615"} {
		checkRead(t, text, 16, want)
	}
}

func TestP1RefusesWhatIsNoNumber(t *testing.T) {
	texts := []string{
		"", "+", "-", ".", "+.", "-.", "/", "-/", "./", "/.",
		"--1", "++1", "+-1", "-+1", "1-", "1+", "1-1", "- 1",
		"1/", "/1", "-/1", "1//1", "1/1/1", "/1/1", "1/1/", "1/-1", "1/+1", "1/0", "0/0", "-1/000",
		"..", "1..1", "1.1.1", ".1.", "1.1/1", "1/1.1", "1./1", "1/.1", "1/1.", ".1/1", "1.-1", "-.-1",
		" 1", "1 ", "1 1", "\t1", "1\n", "1\r", "1_1", "1,1", "1e1 ", "0x1", "#x1", "1'", "1;", "1:", "1`", "1g", "1@",
		"\xff", "1\xff", "\xff1", "1/\xff", "1.\xff", "\x801", "\xc0\xb1", "1\x00", "\x001", "\xef\xbb\xbf1", "1\xed\xa0\x80",
		"１", "1１", "١", "−1", "½", "1\u2044" + "1", "\uFFFD", "1\uFFFD", "ı",
	}
	for _, text := range texts {
		for _, radix := range radixes {
			checkRefused(t, text, radix)
		}
	}
}

func TestP1RefusesDigitsTheRadixLacks(t *testing.T) {
	const all = "0123456789abcdef"
	for _, radix := range radixes {
		for value, digit := range all {
			for _, text := range []string{string(digit), "1" + string(digit), "1/1" + string(digit)} {
				if value >= radix {
					checkRefused(t, text, radix)
				}
			}
			if value < radix {
				checkRead(t, string(digit), radix, strconv.Itoa(value))
			}
		}
		for digit := 'A'; digit <= 'Z'; digit++ {
			checkRefused(t, "1"+string(digit), radix)
		}
		for digit := 'g'; digit <= 'z'; digit++ {
			checkRefused(t, "1"+string(digit), radix)
		}
		if radix != 10 {
			checkRefused(t, "1.1", radix)
			checkRefused(t, "1.", radix)
			checkRefused(t, ".1", radix)
		}
	}
}

func TestP1RadixThatIsNone(t *testing.T) {
	none := []int{math.MinInt, math.MaxInt, -16, -10, -8, -2, 32, 36, 64, 100, 256 + 10, 1<<32 + 10}
	for radix := -1; radix <= 20; radix++ {
		if radix != 2 && radix != 8 && radix != 10 && radix != 16 {
			none = append(none, radix)
		}
	}
	for _, radix := range none {
		for _, text := range []string{"", "0", "1", "1/1", "1.0"} {
			checkRefused(t, text, radix)
		}
		if got := impl.NumPrint(impl.NumInt(1), radix); got != "" {
			t.Errorf("written in %d: %q", radix, got)
		}
	}
}

func TestP1LongestText(t *testing.T) {
	for _, radix := range radixes {
		for _, form := range []struct{ ahead, behind, want string }{
			{"", "1", "1"}, {"-", "1", "-1"}, {"+", "10/10", "1"}, {"1/", "1", "1"}, {"", "0", "0"},
		} {
			room := 4*impl.NumMaxDigits - len(form.ahead) - len(form.behind)
			checkRead(t, form.ahead+noughts(room)+form.behind, radix, form.want)
			checkRefused(t, form.ahead+noughts(room+1)+form.behind, radix)
		}
	}
	checkRead(t, "1."+noughts(238), 10, "1")
	checkRefused(t, "1."+noughts(239), 10)
	checkRead(t, nines(119)+"/"+nines(119), 10, "1")
	checkRead(t, strings.Repeat("f", 119)+"/"+strings.Repeat("f", 119), 16, "1")
	checkRefused(t, nines(240), 10)
	checkRefused(t, strings.Repeat("1", 1_000_000), 2)
}

func TestP1TooBig(t *testing.T) {
	most := impl.NumMaxDigits
	least61 := "1" + noughts(most)
	for text, want := range map[string]string{
		nines(most):           nines(most),
		"-" + nines(most):     "-" + nines(most),
		"1" + noughts(most-1): "1" + noughts(most-1),
		"1/" + nines(most):    "1/" + nines(most),
		"-1" + noughts(most-1) + "/" + nines(most):    "-1" + noughts(most-1) + "/" + nines(most),
		"18" + noughts(most-1) + "/2":                 "9" + noughts(most-1),
		least61 + "/10":                               "1" + noughts(most-1),
		"3/3" + noughts(most-1):                       "1/1" + noughts(most-1),
		"2/2" + noughts(most-1):                       "1/1" + noughts(most-1),
		"20/1" + noughts(most+1):                      "1/5" + noughts(most-1),
		least61 + "/" + least61:                       "1",
		"1." + noughts(200):                           "1",
		"0/" + least61:                                "0",
		"." + noughts(200):                            "0",
		"." + noughts(most-2) + "1":                   "1/1" + noughts(most-1),
		"." + noughts(most-1) + "5":                   "1/2" + noughts(most-1),
		"-." + noughts(most-1) + "2":                  "-1/5" + noughts(most-1),
		nines(most) + "." + noughts(100):              nines(most),
		strings.Repeat("3", most+9) + "/3" + nines(8): "",
		least61:                                        "",
		"-" + least61:                                  "",
		nines(most + 1):                                "",
		"1/" + least61:                                 "",
		nines(most) + "/" + least61:                    "",
		least61 + "/" + nines(most):                    "",
		least61 + noughts(1) + "/10":                   "",
		"2/2" + noughts(most):                          "",
		"." + noughts(most-1) + "1":                    "",
		least61 + "." + noughts(10):                    "",
		nines(most) + ".5":                             "",
		strings.Repeat("7", 120) + "/" + nines(119):    "",
		strings.Repeat("12", 60) + "/1" + noughts(118): "",
	} {
		if want == "" {
			checkRefused(t, text, 10)
		} else {
			checkRead(t, text, 10, want)
		}
	}
	for _, radix := range radixes {
		limit := ten(most)
		if text := limit.Text(radix); len(text) <= 4*most {
			checkRefused(t, text, radix)
			checkRefused(t, "-1/"+text, radix)
			checkRead(t, text+"/10", radix, printed(mustNum(t, new(big.Rat).SetFrac(limit, big.NewInt(int64(radix)))), 10))
		}
		if text := limit.Sub(limit, big.NewInt(1)).Text(radix); len(text) <= 4*most {
			checkRead(t, text, radix, nines(most))
			checkRead(t, "-1/"+text, radix, "-1/"+nines(most))
		}
	}
}

func mustNum(t *testing.T, r *big.Rat) impl.Num {
	t.Helper()
	n, ok := numOf(r)
	if !ok {
		t.Fatalf("%s is too big", r)
	}
	return n
}

// TestP1ReadsAnyRatio holds what is read against another arithmetic, in texts of all lengths, too big or not.
func TestP1ReadsAnyRatio(t *testing.T) {
	d := &dice{state: 1}
	for range 2000 {
		up, down, both := d.digits(80), d.digits(80), d.digits(20)
		radix := radixes[d.upTo(3)]
		text := new(big.Int).Mul(up, both).Text(radix) + "/" + new(big.Int).Mul(down, both).Text(radix)
		if len(text) > 4*impl.NumMaxDigits || down.Sign() == 0 || both.Sign() == 0 {
			checkRefused(t, text, radix)
			continue
		}
		if want, ok := numOf(new(big.Rat).SetFrac(up, down)); ok {
			checkRead(t, text, radix, printed(want, 10))
		} else {
			checkRefused(t, text, radix)
		}
	}
}

// TestP1DividesByGuessing has numbers where the first guess of how often one goes into another is too great.
func TestP1DividesByGuessing(t *testing.T) {
	group := ten(9)
	half := new(big.Int).Div(group, big.NewInt(2))
	less := func(by int64) *big.Int { return new(big.Int).Sub(group, big.NewInt(by)) }
	number := func(groups ...*big.Int) *big.Int {
		n := new(big.Int)
		for _, g := range groups {
			n.Mul(n, group).Add(n, g)
		}
		return n
	}
	nought := big.NewInt(0)
	for _, down := range []*big.Int{
		number(half, nought, less(1)), number(half, nought, nought, less(1)), number(half, half, less(2)), number(half, less(1)),
		number(less(1), less(1)), number(big.NewInt(1), nought, less(1)), number(half, nought, big.NewInt(1)), number(big.NewInt(1), nought),
	} {
		for _, often := range []*big.Int{
			number(less(2), less(1)), number(less(1), less(1)), number(less(1), nought), number(big.NewInt(1), nought, less(1)), less(1), number(half, half),
		} {
			up := new(big.Int).Mul(down, often)
			if up.Cmp(ten(120)) < 0 && often.Cmp(ten(60)) < 0 {
				checkRead(t, up.String()+"/"+down.String(), 10, often.String())
				checkRead(t, down.String()+"/"+up.String(), 10, "1/"+often.String())
			}
			next := new(big.Int).Sub(up, big.NewInt(1))
			if want, ok := numOf(new(big.Rat).SetFrac(next, down)); ok {
				checkRead(t, next.String()+"/"+down.String(), 10, printed(want, 10))
			}
		}
	}
}

func checkThereAndBack(t *testing.T, n impl.Num) {
	t.Helper()
	if !impl.NumOk(n) {
		t.Errorf("%+v is not ok", n)
	}
	for _, radix := range radixes {
		text := impl.NumPrint(n, radix)
		if want := printed(n, radix); text != want {
			t.Errorf("%+v in %d: %q, not %q", n, radix, text, want)
		}
		back, ok := impl.NumParse(text, radix)
		if len(text) > 4*impl.NumMaxDigits {
			checkRefused(t, text, radix)
		} else if !ok || back != n {
			t.Errorf("%q in %d: %+v %v, not %+v", text, radix, back, ok, n)
		}
	}
}

func TestP1ThereAndBack(t *testing.T) {
	for _, text := range []string{
		"0", "1", "-1", "9", "10", "-10", "1/2", "-2/3", "15/16", "16/15", "255", "256/255", "-1000000000", "999999999/1000000000", "7/1000000000000000000",
		nines(60), "-" + nines(60), "1" + noughts(59), "1/" + nines(60), "-" + nines(60) + "/1" + noughts(59), "1" + noughts(59) + "/" + nines(60),
	} {
		checkThereAndBack(t, mustParse(t, text))
	}
	d := &dice{state: 2}
	for range 1500 {
		checkThereAndBack(t, mustNum(t, d.ratio(60)))
	}
}

// TestP1ThereAndBackLimit has texts of just as many bytes as are read, and of one more.
func TestP1ThereAndBackLimit(t *testing.T) {
	two := func(power uint) *big.Int { return new(big.Int).Lsh(big.NewInt(1), power) }
	up := two(119)                                                       // 120 bits
	down := new(big.Int).Sub(two(119), big.NewInt(1))                    // 119 bits
	at := mustNum(t, new(big.Rat).SetFrac(up, down))                     // 240 bytes
	over := mustNum(t, new(big.Rat).SetFrac(new(big.Int).Neg(up), down)) // 241
	if a, b := impl.NumPrint(at, 2), impl.NumPrint(over, 2); len(a) != 240 || len(b) != 241 {
		t.Fatalf("%d and %d bytes", len(a), len(b))
	}
	checkThereAndBack(t, at)
	checkThereAndBack(t, over)
}

func TestP1Ints(t *testing.T) {
	ints := []int{math.MinInt, math.MinInt + 1, math.MaxInt, math.MaxInt - 1}
	for i := -1000; i <= 1000; i++ {
		ints = append(ints, i)
	}
	for i, power := 0, 10; i < 17; i, power = i+1, power*10 {
		ints = append(ints, power, -power, power-1, power+1, 1-power, 7*power)
	}
	for i := range 63 {
		ints = append(ints, 1<<i, -1<<i, 1<<i-1, 1<<i+1)
	}
	for _, i := range ints {
		want := impl.Num{Neg: i < 0, Up: strings.TrimPrefix(strconv.Itoa(i), "-"), Down: "1"}
		got := impl.NumInt(i)
		if got != want || !impl.NumOk(got) {
			t.Errorf("%d: %+v, ok %v", i, got, impl.NumOk(got))
		}
		if sign := impl.NumCmp(got, impl.NumInt(0)); sign != new(big.Int).SetInt64(int64(i)).Sign() {
			t.Errorf("%d is of the sign %d", i, sign)
		}
	}
}

func TestP1NotOk(t *testing.T) {
	for what, n := range notOk() {
		if impl.NumOk(n) {
			t.Errorf("%s is ok", what)
		}
		for _, radix := range append([]int{0, 3}, radixes...) {
			if text := impl.NumPrint(n, radix); text != "" {
				t.Errorf("%s in %d: %q", what, radix, text)
			}
		}
	}
}

func TestP1Ok(t *testing.T) {
	for i, n := range []impl.Num{
		{Up: "0", Down: "1"}, {Up: "1", Down: "1"}, {Neg: true, Up: "1", Down: "1"}, {Up: "9", Down: "10"}, {Neg: true, Up: "10", Down: "9"},
		{Up: nines(60), Down: "1"}, {Neg: true, Up: nines(60), Down: "1" + noughts(59)}, {Up: "1", Down: nines(60)},
		{Up: "2" + noughts(58) + "3", Down: "3" + noughts(59)},
	} {
		want := new(big.Int).GCD(nil, nil, new(big.Int).Abs(ratOf(n).Num()), ratOf(n).Denom())
		if !impl.NumOk(n) || want.Cmp(big.NewInt(1)) != 0 {
			t.Errorf("case %d: %+v", i, n)
		}
	}
}
