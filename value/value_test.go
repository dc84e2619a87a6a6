package value_test

import (
	"math"
	"regexp"
	"slices"
	"strconv"
	"strings"
	"testing"
	"unsafe"

	"covenant/api"
	"covenant/value"
)

func number(n int64) api.Value   { return api.Value{Kind: api.Int, N: n} }
func truth(n int64) api.Value    { return api.Value{Kind: api.Bool, N: n} }
func text(s string) api.Value    { return api.Value{Kind: api.Text, T: s} }
func span(n, hi int64) api.Value { return api.Value{Kind: api.Span, N: n, Hi: hi} }

var longest = strings.Repeat("x", api.MaxText)

// sample is valid values in their order, each of them once, with the text of each.
var sample = []struct {
	v api.Value
	s string
}{
	{api.Value{}, "null"},
	{number(math.MinInt64), "-9223372036854775808"},
	{number(math.MinInt64 + 1), "-9223372036854775807"},
	{number(-10), "-10"},
	{number(-5), "-5"},
	{number(-1), "-1"},
	{number(0), "0"},
	{number(1), "1"},
	{number(5), "5"},
	{number(10), "10"},
	{number(math.MaxInt64 - 1), "9223372036854775806"},
	{number(math.MaxInt64), "9223372036854775807"},
	{truth(0), "no"},
	{truth(1), "yes"},
	{text(""), "''"},
	{text("\x00"), "'\x00'"},
	{text("\n"), "'\n'"},
	{text("'"), "''''"},
	{text("''"), "''''''"},
	{text("'a"), "'''a'"},
	{text("5"), "'5'"},
	{text("[1,4)"), "'[1,4)'"},
	{text("a"), "'a'"},
	{text("a'"), "'a'''"},
	{text("a'b"), "'a''b'"},
	{text("ab"), "'ab'"},
	{text("b"), "'b'"},
	{text("it's"), "'it''s'"},
	{text("null"), "'null'"},
	{text(longest[1:]), "'" + longest[1:] + "'"},
	{text(longest), "'" + longest + "'"},
	{text("yes"), "'yes'"},
	{text("é"), "'é'"},
	{text("\xff"), "'\xff'"},
	{span(math.MinInt64, math.MinInt64+1), "[-9223372036854775808,-9223372036854775807)"},
	{span(math.MinInt64, math.MaxInt64), "[-9223372036854775808,9223372036854775807)"},
	{span(-3, -2), "[-3,-2)"},
	{span(-3, 0), "[-3,0)"},
	{span(0, 1), "[0,1)"},
	{span(1, 2), "[1,2)"},
	{span(1, 4), "[1,4)"},
	{span(1, 10), "[1,10)"},
	{span(2, 3), "[2,3)"},
	{span(math.MaxInt64-1, math.MaxInt64), "[9223372036854775806,9223372036854775807)"},
}

// invalid is values that are not valid: of each Kind, with each field that may not be.
var invalid = []api.Value{
	{Kind: api.Null, N: 1},
	{Kind: api.Null, N: -1},
	{Kind: api.Null, Hi: 1},
	{Kind: api.Null, T: "a"},
	{Kind: api.Int, Hi: 1},
	{Kind: api.Int, N: 1, Hi: -1},
	{Kind: api.Int, T: "a"},
	{Kind: api.Bool, N: 2},
	{Kind: api.Bool, N: -1},
	{Kind: api.Bool, N: math.MinInt64},
	{Kind: api.Bool, Hi: 1},
	{Kind: api.Bool, N: 1, T: "a"},
	{Kind: api.Text, N: 1},
	{Kind: api.Text, Hi: 1, T: "a"},
	{Kind: api.Text, T: longest + "x"},
	{Kind: api.Text, T: strings.Repeat("'", api.MaxText+1)},
	{Kind: api.Span},
	{Kind: api.Span, N: 4, Hi: 4},
	{Kind: api.Span, N: 5, Hi: 4},
	{Kind: api.Span, N: math.MaxInt64, Hi: math.MinInt64},
	{Kind: api.Span, N: math.MaxInt64, Hi: math.MaxInt64},
	{Kind: api.Span, N: 1, Hi: 4, T: "a"},
	{Kind: api.Span + 1},
	{Kind: api.Span + 1, N: 1, Hi: 4},
	{Kind: math.MaxUint8},
}

// anyValues is values of all sorts, valid ones and others.
func anyValues() []api.Value {
	var out []api.Value
	for _, x := range sample {
		out = append(out, x.v)
	}
	return append(out, invalid...)
}

// P1.1: May.
func TestMayOfValidValues(t *testing.T) {
	for _, x := range sample {
		if !value.May(x.v) {
			t.Errorf("May(%+v) = false", x.v)
		}
	}
}

func TestMayOfInvalidValues(t *testing.T) {
	for _, v := range invalid {
		if value.May(v) {
			t.Errorf("May(%+v) = true", v)
		}
	}
}

func TestMayCountsBytesOfTexts(t *testing.T) {
	half := strings.Repeat("é", api.MaxText/2)
	if !value.May(text(half)) {
		t.Error("a text of MaxText bytes is valid, however few its letters")
	}
	if value.May(text(half + "x")) {
		t.Error("a text of MaxText+1 bytes is not valid, however few its letters")
	}
}

// P1.1, P1.5: a valid value fits each Kind if it is NULL, otherwise only its own.
func TestFitsOfValidValues(t *testing.T) {
	for _, x := range sample {
		for kind := api.Int; kind <= api.Span; kind++ {
			want := x.v.Kind == api.Null || x.v.Kind == kind
			if got := value.Fits(x.v, kind); got != want {
				t.Errorf("Fits(%q, %d) = %v", x.s, kind, got)
			}
		}
	}
}

func TestFitsOfInvalidValues(t *testing.T) {
	for _, v := range invalid {
		for kind := range 256 {
			if value.Fits(v, uint8(kind)) {
				t.Errorf("Fits(%+v, %d) = true", v, kind)
			}
		}
	}
}

func TestFitsOfKindsThatAreNone(t *testing.T) {
	for _, x := range sample {
		if value.Fits(x.v, api.Null) {
			t.Errorf("Fits(%q, Null) = true", x.s)
		}
		for kind := int(api.Span) + 1; kind < 256; kind++ {
			if value.Fits(x.v, uint8(kind)) {
				t.Errorf("Fits(%q, %d) = true", x.s, kind)
			}
		}
	}
}

func compareInts(a, b int) int {
	switch {
	case a < b:
		return -1
	case a > b:
		return 1
	}
	return 0
}

// P1.1, P1.4, P1.6: the sample stands in its order.
func TestCompareOfValidValues(t *testing.T) {
	for i, a := range sample {
		for j, b := range sample {
			if got := value.Compare(a.v, b.v); got != compareInts(i, j) {
				t.Errorf("Compare(%q, %q) = %d", a.s, b.s, got)
			}
		}
	}
}

// P1.1: Kind is held against Kind first, then N, then Hi, then T, whether the values are valid or not.
func TestCompareOfAnyValues(t *testing.T) {
	list := []api.Value{
		{Kind: 0},
		{Kind: 0, T: "a"},
		{Kind: 0, Hi: 1},
		{Kind: 0, N: 1},
		{Kind: 1, N: -1, Hi: 9, T: "z"},
		{Kind: 1, N: 0, Hi: -1, T: "z"},
		{Kind: 1, N: 0, Hi: 0, T: "y"},
		{Kind: 1, N: 0, Hi: 0, T: "z"},
		{Kind: 1, N: 0, Hi: 1, T: ""},
		{Kind: 1, N: 0, Hi: 1, T: "a"},
		{Kind: 1, N: math.MaxInt64, Hi: math.MinInt64},
		{Kind: 4, N: math.MinInt64, Hi: math.MinInt64},
		{Kind: 4, N: 4, Hi: 4},
		{Kind: 4, N: 5, Hi: 4},
		{Kind: 127},
		{Kind: 128},
		{Kind: 255, N: math.MinInt64},
		{Kind: 255},
	}
	for i, a := range list {
		for j, b := range list {
			if got := value.Compare(a, b); got != compareInts(i, j) {
				t.Errorf("Compare(%+v, %+v) = %d", a, b, got)
			}
		}
	}
}

// P1.4: one is before the other, or they are the same; what is before something that is before a value is before it.
func TestCompareIsAnOrder(t *testing.T) {
	all := anyValues()
	for _, a := range all {
		for _, b := range all {
			ab := value.Compare(a, b)
			if ab != -value.Compare(b, a) || (ab == 0) != (a == b) || ab < -1 || ab > 1 {
				t.Fatalf("Compare(%+v, %+v) = %d, the other way %d", a, b, ab, value.Compare(b, a))
			}
			for _, c := range all {
				if ab < 0 && value.Compare(b, c) < 0 && value.Compare(a, c) != -1 {
					t.Fatalf("%+v, %+v, %+v: not in one order", a, b, c)
				}
			}
		}
	}
}

// P1.6: spans that begin at the same number are ordered by where they end, numbers by their values, texts by their bytes, no before yes, NULL before everything.
func TestOrderWithinKinds(t *testing.T) {
	pairs := [][2]api.Value{
		{span(1, 2), span(1, 3)},
		{span(1, 9), span(1, 10)},
		{span(-5, -1), span(-5, math.MaxInt64)},
		{span(1, 100), span(2, 3)},
		{number(9), number(10)},
		{number(-10), number(-9)},
		{number(math.MinInt64), number(math.MaxInt64)},
		{text("10"), text("9")},
		{text("Z"), text("a")},
		{text("a"), text("aa")},
		{text(""), text("\x00")},
		{text("\x7f"), text("\x80")},
		{text("z"), text("é")},
		{text(longest[1:]), text(longest)},
		{truth(0), truth(1)},
		{number(math.MaxInt64), truth(0)},
		{truth(1), text("")},
		{text("\xff"), span(math.MinInt64, 0)},
	}
	for _, p := range pairs {
		if value.Compare(p[0], p[1]) != -1 || value.Compare(p[1], p[0]) != 1 {
			t.Errorf("%+v is not before %+v", p[0], p[1])
		}
		for _, v := range p {
			if value.Compare(api.Value{}, v) != -1 || value.Compare(v, api.Value{}) != 1 || value.Compare(v, v) != 0 {
				t.Errorf("NULL is not before %+v, or that is not itself", v)
			}
		}
	}
}

// P1.2: Text.
func TestTextOfValidValues(t *testing.T) {
	for _, x := range sample {
		if got := value.Text(x.v); got != x.s {
			t.Errorf("Text(%+v) = %q, not %q", x.v, got, x.s)
		}
	}
}

func TestTextOfInvalidValues(t *testing.T) {
	for _, v := range invalid {
		if got := value.Text(v); got != "" {
			t.Errorf("Text(%+v) = %q", v, got)
		}
	}
}

// P1.2: Parse.
func TestParseOfTexts(t *testing.T) {
	for _, x := range sample {
		if got, e := value.Parse(x.s); got != x.v || e != api.OK {
			t.Errorf("Parse(%q) = %+v, %d", x.s, got, e)
		}
	}
}

// wrong is texts that are not the text of a value.
var wrong = []string{
	"", " ", "Null", "NULL", "nul", "nulll", " null", "null ", "Yes", "yes ", "y", "No", "true", "nil",
	"05", "00", "-0", "-05", "-00", "+5", "+0", "-", "+", "--5", "5-", "5 ", " 5", "5\n", "5.0", "1e3", "0x5", "0b1", "1_000", "٥", "5,4",
	"9223372036854775808", "-9223372036854775809", "18446744073709551616", "99999999999999999999999999",
	"'", "'''", "'''''", "'a", "a'", "a", "'a'b'", "'a''", "''a'", "'a'''b'", "'a' ", " 'a'", "'a'x", "''''a''", "\"a\"",
	"'" + longest + "x'", "'" + strings.Repeat("''", api.MaxText+1) + "'", "'" + strings.Repeat("é", api.MaxText/2) + "x'",
	"[", "[)", "[,)", "[1,)", "[,4)", "[1,4", "[1,4]", "1,4)", "(1,4)", "[1;4)", "[1 ,4)", "[1, 4)", "[ 1,4)", "[1,4 )", "[1,4) ", " [1,4)",
	"[4,4)", "[5,4)", "[1,-4)", "[01,4)", "[1,04)", "[-0,4)", "[-4,-0)", "[+1,4)", "[1,+4)", "[1,4,5)", "[1,4))", "[[1,4)", "[1,4)[1,4)", "[1)", "[1,null)", "['1',4)",
	"[-9223372036854775809,0)", "[0,9223372036854775808)", "[9223372036854775807,9223372036854775807)", "[9223372036854775807,9223372036854775808)",
	"null,null", "yes,no", "\x00", "\xff",
}

func TestParseOfWrongTexts(t *testing.T) {
	for _, s := range wrong {
		if v, e := value.Parse(s); e != api.ErrForm || v != (api.Value{}) {
			t.Errorf("Parse(%q) = %+v, %d", s, v, e)
		}
	}
}

func TestParseOfTextsAtTheLimit(t *testing.T) {
	quotes := strings.Repeat("'", api.MaxText)
	for _, v := range []api.Value{text(quotes), text(longest[1:] + "'"), text("'" + longest[1:]), text(strings.Repeat("\x00", api.MaxText))} {
		if got, e := value.Parse(value.Text(v)); got != v || e != api.OK {
			t.Errorf("Parse(Text(%+v)) = %+v, %d", v, got, e)
		}
	}
}

// oracle is the grammar of the texts of values, but for the limits of numbers, of texts and of spans.
var oracle = regexp.MustCompile(`^(null|yes|no|` + digits + `|'([^']|'')*'|\[` + digits + `,` + digits + `\))$`)

const digits = `(0|-?[1-9][0-9]*)`

// inner is a number of a span.
func inner(t *testing.T, s string) int64 {
	n, err := strconv.ParseInt(s, 10, 64)
	if err != nil {
		t.Fatal(err)
	}
	return n
}

// P1.2, P1.3: all texts of up to six bytes of an alphabet: what the grammar says is what Parse takes; Text of Parse is the text.
func TestParseOfAllShortTexts(t *testing.T) {
	const alphabet = "-015[,)'a"
	var visit func(s string)
	visit = func(s string) {
		want := oracle.MatchString(s)
		if m := oracle.FindStringSubmatch(s); want && s[0] == '[' {
			want = inner(t, m[4]) < inner(t, m[5])
		}
		v, e := value.Parse(s)
		if (e == api.OK) != want || e != api.OK && (e != api.ErrForm || v != api.Value{}) {
			t.Fatalf("Parse(%q) = %+v, %d", s, v, e)
		}
		if e == api.OK && (value.Text(v) != s || !value.May(v)) {
			t.Fatalf("Text(Parse(%q)) = %q", s, value.Text(v))
		}
		if len(s) < 6 {
			for _, c := range alphabet {
				visit(s + string(c))
			}
		}
	}
	visit("")
}

// P1.3: Parse of Text is the value, over numbers near every power of two, and the spans between them.
func TestRoundTripOfNumbersAndSpans(t *testing.T) {
	var numbers []int64
	for bit := range 64 {
		for d := int64(-1); d <= 1; d++ {
			n := int64(1<<bit) + d
			numbers = append(numbers, n, -n)
		}
	}
	check := func(v api.Value) {
		if got, e := value.Parse(value.Text(v)); got != v || e != api.OK {
			t.Fatalf("Parse(Text(%+v)) = %+v, %d", v, got, e)
		}
	}
	for _, n := range numbers {
		check(number(n))
		for _, hi := range numbers {
			if n < hi {
				check(span(n, hi))
			} else if s := value.Text(span(n, hi)); s != "" {
				t.Fatalf("a span that ends where it begins, or ahead of that, has a text: %s", s)
			}
		}
	}
}

// P1.3: Parse of Text is the value, over texts of each byte.
func TestRoundTripOfBytes(t *testing.T) {
	for a := range 256 {
		for b := range 256 {
			v := text(string([]byte{byte(a), byte(b)}))
			if got, e := value.Parse(value.Text(v)); got != v || e != api.OK {
				t.Fatalf("Parse(Text(%+v)) = %+v, %d", v, got, e)
			}
		}
	}
}

// P1.7: different valid values have different texts.
func TestTextsAreDistinct(t *testing.T) {
	var values []api.Value
	for n := int64(-12); n <= 12; n++ {
		values = append(values, number(n))
		for hi := n + 1; hi <= 12; hi++ {
			values = append(values, span(n, hi))
		}
	}
	var grow func(s string)
	grow = func(s string) {
		values = append(values, text(s))
		if len(s) < 4 {
			for _, c := range "'1,[)" {
				grow(s + string(c))
			}
		}
	}
	grow("")
	for _, x := range sample {
		if !slices.Contains(values, x.v) {
			values = append(values, x.v)
		}
	}
	seen := map[string]api.Value{}
	for _, v := range values {
		s := value.Text(v)
		if w, ok := seen[s]; ok {
			t.Fatalf("%+v and %+v have the same text %q", v, w, s)
		}
		seen[s] = v
	}
}

// A text that Parse answers shares no memory with the text that it was given.
func TestParseAnswersNewMemory(t *testing.T) {
	given := []byte("'abc'")
	v, e := value.Parse(unsafe.String(&given[0], len(given)))
	given[2] = 'x'
	if e != api.OK || v.T != "abc" {
		t.Errorf("Parse = %+v, %d", v, e)
	}
}

// The examples of the chapter.
func TestExamples(t *testing.T) {
	for _, x := range []struct {
		v api.Value
		s string
	}{{number(-5), "-5"}, {truth(1), "yes"}, {text("it's"), "'it''s'"}, {span(1, 4), "[1,4)"}} {
		if got := value.Text(x.v); got != x.s {
			t.Errorf("Text(%+v) = %q", x.v, got)
		}
	}
	for _, s := range []string{"05", "-0", "[4,4)", "'a"} {
		if _, e := value.Parse(s); e != api.ErrForm {
			t.Errorf("Parse(%q): %d", s, e)
		}
	}
	if c := value.Compare(api.Value{}, number(0)); c != -1 {
		t.Errorf("Compare(NULL, 0) = %d", c)
	}
}
