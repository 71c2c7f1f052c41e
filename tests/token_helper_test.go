package tests

import (
	"regexp"
	"slices"
	"strconv"
	"strings"
	"testing"

	"loop.example/sistab/impl"
)

// The tokens that have no text.
const (
	open   = "open"
	shut   = "close"
	dot    = "dot"
	vector = "vector"
	raw    = "bytes"
	drop   = "drop"
)

func number(text string) string    { return "number:" + text }
func symbol(text string) string    { return "symbol:" + text }
func str(text string) string       { return "string:" + text }
func character(text string) string { return "char:" + text }
func boolean(text string) string   { return "bool:" + text }
func quote(text string) string     { return "quote:" + text }
func mark(text string) string      { return "mark:" + text }
func back(text string) string      { return "back:" + text }

var sorts = []string{
	impl.ReadNumber: "number", impl.ReadSymbol: "symbol", impl.ReadString: "string", impl.ReadChar: "char", impl.ReadBool: "bool",
}

// told is a token in words, without its place; parts that it must not have show.
func told(x impl.ReadToken) string {
	bare := map[int]string{
		impl.ReadOpen: open, impl.ReadClose: shut, impl.ReadDot: dot, impl.ReadVector: vector, impl.ReadBytes: raw, impl.ReadDrop: drop,
	}
	texts := map[int]string{impl.ReadQuote: "quote", impl.ReadMark: "mark", impl.ReadBack: "back"}
	switch {
	case bare[x.Kind] != "" && x == impl.ReadToken{Kind: x.Kind, At: x.At}:
		return bare[x.Kind]
	case texts[x.Kind] != "" && x.Sort == 0:
		return texts[x.Kind] + ":" + x.Text
	case x.Kind == impl.ReadAtom && x.Sort > 0 && x.Sort < len(sorts):
		return sorts[x.Sort] + ":" + x.Text
	}
	return "no token " + strconv.Itoa(x.Kind) + ", " + strconv.Itoa(x.Sort) + ", " + strconv.Quote(x.Text)
}

func toldAll(tokens []impl.ReadToken) []string {
	out := []string{}
	for _, x := range tokens {
		out = append(out, told(x))
	}
	return out
}

// short is a text that may be printed in a failure.
func short(text string) string {
	if len(text) > 300 {
		text = text[:300]
	}
	return strconv.Quote(text)
}

// read gives the tokens of a text that must have no fault.
func read(t *testing.T, text string) []impl.ReadToken {
	t.Helper()
	tokens, fault := impl.ReadTokens(text)
	if fault != (impl.ReadFault{}) {
		t.Errorf("%s: fault %+v", short(text), fault)
	}
	return tokens
}

// checkTokens looks at what the tokens are, not at their places.
func checkTokens(t *testing.T, text string, want ...string) {
	t.Helper()
	if got := toldAll(read(t, text)); !slices.Equal(got, want) {
		t.Errorf("%s: %q, not %q", short(text), got, want)
	}
}

func checkPlaces(t *testing.T, text string, want ...int) {
	t.Helper()
	got := []int{}
	for _, x := range read(t, text) {
		got = append(got, x.At)
	}
	if !slices.Equal(got, want) {
		t.Errorf("%s: at %v, not %v", short(text), got, want)
	}
}

func checkFault(t *testing.T, text string, at int, code int) {
	t.Helper()
	tokens, fault := impl.ReadTokens(text)
	if fault != (impl.ReadFault{At: at, Code: code}) || len(tokens) != 0 {
		t.Errorf("%s: fault %+v beside %d tokens, not code %d at %d", short(text), fault, len(tokens), code, at)
	}
}

// checkBad has a text that is a bad token, alone and with others around it.
func checkBad(t *testing.T, text string) {
	t.Helper()
	checkFault(t, text, 0, impl.ReadBadToken)
	checkFault(t, "(a \n"+text, 4, impl.ReadBadToken)
	checkFault(t, "; c\n#|c|# \"s\""+text+"\n(", 13, impl.ReadBadToken)
}

// What follows is another way to cut a text: by regular expressions, from what the document says.
var (
	gapAhead    = regexp.MustCompile(`^(?:[ \t\n\r]+|;[^\n]*)`)
	nestAhead   = regexp.MustCompile(`^((?s:.*?))(#\||\|#)`)
	signAhead   = regexp.MustCompile("^(?:[()'`]|,@?|#\\(|#u8\\(|#;)")
	stringAhead = regexp.MustCompile(`^"((?s:[^"\\]|\\.)*)"`)
	charAhead   = regexp.MustCompile(`^#\\(?:[ \t\n\r()";']|[^ \t\n\r()";']*)`)
	labelAhead  = regexp.MustCompile(`^#([0-9]+)([^ \t\n\r()";']?)`)
	wordAhead   = regexp.MustCompile(`^[^ \t\n\r()";']+`)
	label       = regexp.MustCompile(`^#(0|[1-9][0-9]{0,2})([=#])$`)
	numeral     = regexp.MustCompile(`^#([bodx])(.*)$`)
	charNumber  = regexp.MustCompile(`^#\\x([0-9a-f]{1,6})$`)
	stringWhole = regexp.MustCompile(`^"((?s:[^"\\])|\\[nt"\\]|\\x[0-9a-f]{1,6};)*"$`)
	escape      = regexp.MustCompile(`\\(?:[nt"\\]|x[0-9a-f]+;)`)
	symbolWhole = regexp.MustCompile("^[^0-9#,`\\x00-\\x20\\x7f()\";'\\\\|][^\\x00-\\x20\\x7f()\";'\\\\|]*$")
)

// charactersAlone says whether a text is UTF-8 as the document has it, byte by byte.
func charactersAlone(text string) bool {
	for text != "" {
		r, size := int(text[0]), 1
		switch {
		case r >= 0xf0 && r < 0xf8:
			r, size = r&7, 4
		case r >= 0xe0 && r < 0xf0:
			r, size = r&15, 3
		case r >= 0xc0 && r < 0xe0:
			r, size = r&31, 2
		case r >= 0x80:
			return false
		}
		if len(text) < size {
			return false
		}
		for i := 1; i < size; i++ {
			if text[i]&0xc0 != 0x80 {
				return false
			}
			r = r<<6 | int(text[i]&0x3f)
		}
		least := []int{0, 0, 0x80, 0x800, 0x10000}[size]
		if r < least || r > 0x10ffff || r >= 0xd800 && r < 0xe000 {
			return false
		}
		text = text[size:]
	}
	return true
}

// byNumber is the character of hexadecimal digits.
func byNumber(digits string) (string, bool) {
	n, err := strconv.ParseInt(digits, 16, 32)
	return string(rune(n)), err == nil && n <= 0x10ffff && (n < 0xd800 || n > 0xdfff)
}

// gapSize is how many bytes are blank or comment; false, if a comment does not end.
func gapSize(text string) (int, bool) {
	at := 0
	for {
		if strings.HasPrefix(text[at:], "#|") {
			for depth := 1; depth > 0; {
				at += 2
				m := nestAhead.FindStringSubmatch(text[at:])
				if m == nil {
					return 0, false
				}
				at += len(m[1])
				depth += map[string]int{"#|": 1, "|#": -1}[m[2]]
			}
			at += 2
			continue
		}
		size := len(gapAhead.FindString(text[at:]))
		if size == 0 {
			return at, true
		}
		at += size
	}
}

// cutToken is the first token of a text that begins with one, and its bytes; "" and nothing, if it is bad.
func cutToken(text string) (string, int) {
	if sign := signAhead.FindString(text); sign != "" {
		return map[string]string{
			"(": open, ")": shut, "#(": vector, "#u8(": raw, "#;": drop,
			"'": quote("quote"), "`": quote("quasiquote"), ",": quote("unquote"), ",@": quote("unquote-splicing"),
		}[sign], len(sign)
	}
	switch {
	case text[0] == '"':
		s := stringAhead.FindString(text)
		return cutString(s), len(s)
	case strings.HasPrefix(text, `#\`):
		word := charAhead.FindString(text)
		return cutChar(word), len(word)
	case labelAhead.MatchString(text):
		m := label.FindStringSubmatch(labelAhead.FindString(text))
		if m == nil {
			return "", 0
		}
		return map[string]string{"=": mark(m[1]), "#": back(m[1])}[m[2]], len(m[0])
	}
	word := wordAhead.FindString(text)
	return cutWord(word), len(word)
}

func cutString(s string) string {
	if !stringWhole.MatchString(s) {
		return ""
	}
	ok := true
	text := escape.ReplaceAllStringFunc(s[1:len(s)-1], func(e string) string {
		switch e[1] {
		case 'n':
			return "\n"
		case 't':
			return "\t"
		case 'x':
			c, known := byNumber(e[2 : len(e)-1])
			ok = ok && known
			return c
		}
		return e[1:]
	})
	if !ok || len(text) > 200 || !charactersAlone(text) {
		return ""
	}
	return str(text)
}

func cutChar(word string) string {
	names := map[string]string{"space": " ", "newline": "\n", "tab": "\t", "null": "\x00"}
	name := word[2:]
	if c := names[name]; c != "" {
		return character(c)
	}
	if charactersAlone(name) && len([]rune(name)) == 1 {
		return character(name)
	}
	if m := charNumber.FindStringSubmatch(word); m != nil {
		if c, ok := byNumber(m[1]); ok {
			return character(c)
		}
	}
	return ""
}

func cutWord(word string) string {
	bools := map[string]string{"#t": "t", "#true": "t", "#f": "f", "#false": "f"}
	radix, digits := 10, word
	if m := numeral.FindStringSubmatch(word); m != nil {
		radix, digits = map[string]int{"b": 2, "o": 8, "d": 10, "x": 16}[m[1]], m[2]
	}
	n, isNumber := impl.NumParse(digits, radix)
	switch {
	case word == ".":
		return dot
	case bools[word] != "":
		return boolean(bools[word])
	case isNumber:
		return number(impl.NumPrint(n, 10))
	case symbolWhole.MatchString(word) && len(word) <= 200 && charactersAlone(word):
		return symbol(word)
	}
	return ""
}

// cutAll is what ReadTokens must tell of a text, the tokens in words, with their places.
func cutAll(text string) ([]string, []int, impl.ReadFault) {
	tokens, places := []string{}, []int{}
	if len(text) > 4000 {
		return nil, nil, impl.ReadFault{Code: 7}
	}
	for at := 0; ; {
		gap, ended := gapSize(text[at:])
		if !ended {
			return nil, nil, impl.ReadFault{At: at, Code: 1}
		}
		at += gap
		if at == len(text) {
			return tokens, places, impl.ReadFault{}
		}
		token, size := cutToken(text[at:])
		if token == "" {
			return nil, nil, impl.ReadFault{At: at, Code: 1}
		}
		if len(tokens) == 300 {
			return nil, nil, impl.ReadFault{At: at, Code: 7}
		}
		tokens, places = append(tokens, token), append(places, at)
		at += size
	}
}
