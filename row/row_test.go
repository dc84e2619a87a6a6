package row_test

import (
	"math"
	"slices"
	"strings"
	"testing"
	"unsafe"

	"covenant/api"
	"covenant/row"
	"covenant/value"
)

const (
	least    = math.MinInt64
	greatest = math.MaxInt64
)

func number(n int64) api.Value   { return api.Value{Kind: api.Int, N: n} }
func truth(n int64) api.Value    { return api.Value{Kind: api.Bool, N: n} }
func text(s string) api.Value    { return api.Value{Kind: api.Text, T: s} }
func span(n, hi int64) api.Value { return api.Value{Kind: api.Span, N: n, Hi: hi} }

func list(l ...api.Value) []api.Value { return l }

// with is a list with one more value, at a place.
func with(l []api.Value, at int, v api.Value) []api.Value {
	return slices.Insert(slices.Clone(l), at, v)
}

var (
	null    = api.Value{}
	longest = strings.Repeat("x", api.MaxText)

	// valid are valid values of each type, with the edges of each, each of them once.
	valid = list(null,
		number(least), number(-1), number(0), number(1), number(greatest), truth(0), truth(1),
		text(""), text("'"), text("', '"), text("'5'"), text("("), text("()"), text(")"), text(", "), text("1"), text("a"), text("a, b"), text("null"), text(longest), text("\xff"),
		span(least, greatest), span(0, 1), span(1, 4), span(greatest-1, greatest))

	// invalid are values that are not valid.
	invalid = []api.Value{
		{N: 1}, {T: "a"}, {Kind: api.Int, Hi: 1}, {Kind: api.Int, N: 1, T: "a"}, {Kind: api.Bool, N: 2}, {Kind: api.Bool, N: -1}, {Kind: api.Bool, Hi: 1},
		{Kind: api.Text, N: 1, T: "a"}, {Kind: api.Text, T: longest + "x"}, span(4, 4), span(4, 1), {Kind: api.Span}, {Kind: api.Span, N: 1, Hi: 4, T: "a"},
		{Kind: api.Span + 1}, {Kind: math.MaxUint8, N: 1},
	}
)

// types are columns of these types.
func types(kinds ...uint8) []api.Column {
	var cols []api.Column
	for i, kind := range kinds {
		cols = append(cols, api.Column{Name: string(rune('a' + i)), Type: kind})
	}
	return cols
}

func checkFits(t *testing.T, l []api.Value, cols []api.Column, want api.Errno) {
	t.Helper()
	if e := row.Fits(l, cols); e != want {
		t.Errorf("Fits(%+v, %+v) = %d, not %d", l, cols, e, want)
	}
}

// P5.1: a row fits if each value fits its column.
func TestFits(t *testing.T) {
	four := types(api.Int, api.Bool, api.Text, api.Span)
	for _, l := range [][]api.Value{
		list(number(1), truth(1), text("a"), span(1, 4)),
		list(number(least), truth(0), text(""), span(least, greatest)),
		list(number(greatest), truth(1), text(longest), span(greatest-1, greatest)),
		list(null, truth(1), text("a"), span(1, 4)),
		list(number(1), null, text("a"), span(1, 4)),
		list(number(1), truth(1), null, span(1, 4)),
		list(number(1), truth(1), text("a"), null),
		list(null, null, null, null),
	} {
		checkFits(t, l, four, api.OK)
	}
	checkFits(t, nil, nil, api.OK)
	checkFits(t, list(), []api.Column{}, api.OK)
	checkFits(t, list(number(1)), types(api.Int), api.OK)
	checkFits(t, list(null), types(api.Int), api.OK)
	checkFits(t, list(text("a"), text("a")), types(api.Text, api.Text), api.OK)
	most := slices.Repeat(list(number(1)), api.MaxCols)
	checkFits(t, most, types(slices.Repeat([]uint8{api.Int}, api.MaxCols)...), api.OK)
}

// P5.1: what a column is named, and what it is by default, is not looked at.
func TestFitsLooksAtTypesAlone(t *testing.T) {
	cols := []api.Column{{Name: "", Type: api.Int, By: text("a")}, {Name: "", Type: api.Text, By: number(1)}}
	checkFits(t, list(number(1), text("a")), cols, api.OK)
	checkFits(t, list(null, null), cols, api.OK)
	checkFits(t, list(text("a"), number(1)), cols, api.ErrType)
}

// P5.1: with fewer values than columns, or more, it is ErrForm, whatever the values are.
func TestFitsOfAnotherLength(t *testing.T) {
	cols := types(api.Int, api.Text, api.Bool)
	right := list(number(1), text("a"), truth(1))
	for n := range right {
		checkFits(t, right[:n], cols, api.ErrForm)
		checkFits(t, right, cols[:n], api.ErrForm)
	}
	checkFits(t, nil, cols, api.ErrForm)
	checkFits(t, right, nil, api.ErrForm)
	checkFits(t, append(slices.Clone(right), null), cols, api.ErrForm)
	for _, v := range append(list(span(1, 4)), invalid...) {
		checkFits(t, list(v), nil, api.ErrForm)
		checkFits(t, list(v), cols, api.ErrForm)
		checkFits(t, list(v, v), cols, api.ErrForm)
		for at := range 4 {
			checkFits(t, with(right, at, v), cols, api.ErrForm)
		}
	}
}

// P5.1: with a value of another Kind, or an invalid one, wherever it stands, it is ErrType.
func TestFitsOfAnotherType(t *testing.T) {
	right := list(number(1), truth(1), text("a"), span(1, 4))
	cols := types(api.Int, api.Bool, api.Text, api.Span)
	for at := range right {
		for _, v := range slices.Concat(right, invalid) {
			if v == right[at] {
				continue
			}
			l := slices.Clone(right)
			l[at] = v
			checkFits(t, l, cols, api.ErrType)
			checkFits(t, list(v), cols[at:at+1], api.ErrType)
		}
	}
	checkFits(t, list(truth(1), number(1), text("a"), span(1, 4)), cols, api.ErrType)
	checkFits(t, right, types(api.Span, api.Text, api.Bool, api.Int), api.ErrType)
	for _, kind := range []uint8{api.Null, api.Span + 1, math.MaxUint8} {
		for _, v := range valid {
			checkFits(t, list(v), types(kind), api.ErrType)
			checkFits(t, list(number(1), v), types(api.Int, kind), api.ErrType)
		}
	}
}

// rising are rows in their order, each once.
var rising = [][]api.Value{
	{},
	{null}, {null, null}, {null, null, null}, {null, number(1)}, {null, span(1, 4)},
	{number(least)}, {number(least), span(1, 4)},
	{number(0)}, {number(0), number(greatest), number(greatest)},
	{number(1)}, {number(1), null}, {number(1), null, null}, {number(1), null, number(least)}, {number(1), null, number(2)}, {number(1), null, text("a")},
	{number(1), number(1), number(3)}, {number(1), number(2)}, {number(1), number(2), number(3)}, {number(1), number(2), number(3), null}, {number(1), number(2), number(4)},
	{number(1), number(3), null}, {number(1), truth(0)}, {number(1), truth(1)}, {number(1), text("")}, {number(1), text("a")}, {number(1), text("a, b")}, {number(1), span(1, 4)},
	{number(9)}, {number(10)}, {number(greatest)}, {number(greatest), null},
	{truth(0)}, {truth(1), null}, {text(""), text("b")}, {text("10")}, {text("9")}, {text("a")}, {text("a"), text("b")}, {text("a, b")}, {text("ab")}, {text("ab"), text("")}, {text(longest)},
	{span(least, 0)}, {span(1, 4)}, {span(1, 4), null}, {span(1, 4), span(least, greatest)}, {span(1, 10)}, {span(2, 3)},
}

func compareInts(a, b int) int {
	switch {
	case a < b:
		return -1
	case a > b:
		return 1
	}
	return 0
}

func checkCompare(t *testing.T, a, b []api.Value, want int) {
	t.Helper()
	if got := row.Compare(a, b); got != want {
		t.Errorf("Compare(%+v, %+v) = %d, not %d", a, b, got, want)
	}
	if got := row.Same(a, b); got != (want == 0) {
		t.Errorf("Same(%+v, %+v) = %v", a, b, got)
	}
}

// P5.1: rows are ordered by their first values, then by their second ones, and so on; a prefix is before what it begins.
func TestCompareAndSame(t *testing.T) {
	for i, a := range rising {
		for k, b := range rising {
			checkCompare(t, a, b, compareInts(i, k))
			checkCompare(t, slices.Clone(a), slices.Clone(b), compareInts(i, k))
		}
	}
	checkCompare(t, nil, nil, 0)
	checkCompare(t, nil, list(), 0)
	checkCompare(t, list(), nil, 0)
	checkCompare(t, nil, list(null), -1)
	checkCompare(t, list(null), nil, 1)
}

// P5.1: rows that first differ at the first value, in the middle, at the last one, whatever follows.
func TestCompareWhereRowsDiffer(t *testing.T) {
	for n := 1; n <= 9; n++ {
		for at := range n {
			a := slices.Repeat(list(number(5)), n)
			b := slices.Clone(a)
			b[at] = number(6)
			checkCompare(t, a, b, -1)
			checkCompare(t, b, a, 1)
			for i := at + 1; i < n; i++ {
				a[i] = span(8, 9)
			}
			checkCompare(t, a, b, -1)
			checkCompare(t, b, a, 1)
			checkCompare(t, a, b[:at+1], -1)
			checkCompare(t, b, a[:at+1], 1)
			checkCompare(t, a[:at], b[:at], 0)
		}
	}
}

// P5.1: any values are held against each other, by each of their fields.
func TestCompareOfAnyValues(t *testing.T) {
	for _, v := range slices.Concat(valid, invalid) {
		for _, w := range slices.Concat(valid, invalid) {
			want := value.Compare(v, w)
			checkCompare(t, list(v), list(w), want)
			checkCompare(t, list(number(1), v, null), list(number(1), w, null), want)
			checkCompare(t, list(v, number(1)), list(w, number(1)), want)
		}
	}
	checkCompare(t, list(api.Value{N: 1}), list(null), 1)
	checkCompare(t, list(api.Value{Kind: api.Int, N: 1, T: "a"}), list(number(1)), 1)
	checkCompare(t, list(api.Value{Kind: api.Int, N: 1, Hi: -1}), list(number(1), null), -1)
}

// texts are rows of valid values, with the text of each.
var texts = []struct {
	l []api.Value
	s string
}{
	{nil, "()"},
	{list(null), "(null)"}, {list(number(5)), "(5)"}, {list(number(-5)), "(-5)"}, {list(number(0)), "(0)"}, {list(truth(1)), "(yes)"}, {list(truth(0)), "(no)"},
	{list(text("")), "('')"}, {list(text("a")), "('a')"}, {list(span(1, 4)), "([1,4))"}, {list(span(-4, -1)), "([-4,-1))"},
	{list(number(1), text("a"), null), "(1, 'a', null)"}, {list(null, null, null), "(null, null, null)"},
	{list(null, number(1), text("a")), "(null, 1, 'a')"}, {list(number(1), null, text("a")), "(1, null, 'a')"},
	{list(number(least), number(greatest)), "(-9223372036854775808, 9223372036854775807)"},
	{list(span(least, greatest), number(least)), "([-9223372036854775808,9223372036854775807), -9223372036854775808)"},
	{list(span(1, 4), text("a"), span(2, 3), span(3, 9)), "([1,4), 'a', [2,3), [3,9))"}, {list(text("[1,4)"), span(1, 4), text(")")), "('[1,4)', [1,4), ')')"},
	{list(text(","), text(" "), text(", ")), "(',', ' ', ', ')"}, {list(text("a, b"), text("a,b"), text("a b")), "('a, b', 'a,b', 'a b')"},
	{list(text("("), text(")"), text("()"), text(")(")), "('(', ')', '()', ')(')"}, {list(text("(1, 'a')"), number(1)), "('(1, ''a'')', 1)"},
	{list(text("'"), text("''"), text("it's")), "('''', '''''', 'it''s')"}, {list(text("'a"), text("a'"), text("'a'")), "('''a', 'a''', '''a''')"},
	{list(text("', '"), text("', ")), "(''', ''', ''', ')"}, {list(text("a', 'b"), text("a, 'b"), text("a', b")), "('a'', ''b', 'a, ''b', 'a'', b')"},
	{list(text("null"), text("yes"), text("no"), text("5"), text("-5")), "('null', 'yes', 'no', '5', '-5')"},
	{list(text(""), text(""), text("")), "('', '', '')"}, {list(text(""), text(", "), text("")), "('', ', ', '')"},
	{list(text("\x00"), text("\xff"), text("\n"), text("é")), "('\x00', '\xff', '\n', 'é')"}, {list(text(longest), text(longest)), "('" + longest + "', '" + longest + "')"},
	{list(text(strings.Repeat("'", api.MaxText)), null), "('" + strings.Repeat("''", api.MaxText) + "', null)"}, {list(text(strings.Repeat(", ", api.MaxText/2))), "('" + strings.Repeat(", ", api.MaxText/2) + "')"},
	{slices.Repeat(list(number(7)), 10), "(7, 7, 7, 7, 7, 7, 7, 7, 7, 7)"},
}

// P5.2: the text of a row.
func TestText(t *testing.T) {
	for _, x := range texts {
		if got := row.Text(x.l); got != x.s {
			t.Errorf("Text(%+v) = %q, not %q", x.l, got, x.s)
		}
	}
	if got := row.Text(list()); got != "()" {
		t.Errorf("Text of no values = %q", got)
	}
}

// P5.2: if a value is invalid, wherever it stands, the text has no bytes.
func TestTextOfInvalidValues(t *testing.T) {
	right := list(number(1), text("a"), null)
	for _, v := range invalid {
		for at := range len(right) + 1 {
			if got := row.Text(with(right, at, v)); got != "" {
				t.Errorf("Text(%+v) = %q", with(right, at, v), got)
			}
		}
		for n := range 3 {
			if got := row.Text(slices.Repeat(list(v), n+1)); got != "" {
				t.Errorf("Text of %d times %+v = %q", n+1, v, got)
			}
		}
	}
}

// P5.2: the row of a text.
func TestParse(t *testing.T) {
	for _, x := range texts {
		if got, e := row.Parse(x.s); !slices.Equal(got, x.l) || e != api.OK {
			t.Errorf("Parse(%q) = %+v, %d, not %+v", x.s, got, e, x.l)
		}
	}
}

func checkRefused(t *testing.T, s string) {
	t.Helper()
	if got, e := row.Parse(s); len(got) != 0 || e != api.ErrForm {
		t.Errorf("Parse(%q) = %+v, %d", s, got, e)
	}
}

// P5.2: what is not the text of a row.
func TestParseOfWrongTexts(t *testing.T) {
	for _, s := range []string{
		// No bytes, no parenthesis, or one alone.
		"", " ", "1", "null", "'a'", "1, 2", "[1,4)", "'(1)'", "(", ")", "(1", "1)", "(1, 2", "1, 2)", "('a'", "'a')", "([1,4)", "[1,4))", ")(", ")1(", "('()", "'()')",
		// One too many.
		"((", "))", "(()", "())", "(())", "((1)", "(1))", "((1))", "(1, (2))", "((1), 2)", "(1, 2))", "((1, 2)", "([1,4)))", "(([1,4))", "(1)(2)", "()()", "(1), (2)", "(1, )2)", "('a'))",
		// Spaces too many or too few.
		"( )", " ()", "() ", "(1 )", "( 1)", " (1)", "(1) ", "(1,2)", "(1,  2)", "(1 ,2)", "(1 , 2)", "(1 2)", "( 1, 2)", "(1, 2 )", "('a','b')", "('a',  'b')", "('a' , 'b')", "(1,\t2)", "(1,\n2)", "(1,\u00a02)", "(1,2, 3)", "(1, 2,3)",
		"([1, 4))", "([1,4),1)", "([1,4) , 1)", "('a' 'b')",
		// An empty place, and commas without one.
		"(,)", "(, )", "( ,)", "( , )", "(1,)", "(1, )", "(1,, 2)", "(1, , 2)", "(, 1)", "(,1)", "(1, 2, )", "(1, 2,)", "(, , )", "('a', )", "(, 'a')", "(, , 1)", "(null, )", "(1; 2)", "(1. 2)",
		// Something behind the last parenthesis, or ahead of the first.
		"(1)1", "(1)a", "(1),", "(1), ", "(1);", "(1)\n", "(1)\x00", "()1", "(1)null", "('a')'", "(1), 2", "x(1)", "1(1)", "\n(1)", "'(1)", "-(1)",
		// Something between them that is not the text of a value.
		"(x)", "(NULL)", "(Null)", "(true)", "(05)", "(-0)", "(+5)", "(--5)", "(5.0)", "(9223372036854775808)", "(-9223372036854775809)", "(\x00)", "(\")", "(1, x)", "(x, 1)", "(1, x, 2)", "(1, 05, 2)", "(nullnull)",
		"(')", "(''')", "('a)", "(a')", "(a)", "('a, 'b')", "('a', 'b)", "('a', b')", "(a', 'b')", "('a'b')", "('a'b, 1)", "('a''', 'b)", "('a'', 'b')", "(''a')", "('a'')", "('''', ')", "(1', '2)", "(1, '2)", "('1, 2)", "(\"a\")",
		"('" + longest + "x')", "(1, '" + longest + "x')", "('" + longest + "x', 1)",
		"([)", "([))", "([,))", "([1,4])", "([4,4))", "([4,1))", "([01,4))", "([1;4))", "(1,4))", "([1,4), [5,5))", "([4,4), [1,4))", "([9223372036854775807,9223372036854775808))",
		// Other parentheses.
		"[1]", "{1}", "[1)", "(1]", "<1>", "\uff081\uff09",
	} {
		checkRefused(t, s)
	}
}

// P5.2: the text of a row with one byte less, or two bytes exchanged, is never taken for that row.
func TestParseOfTextsThatWereMarred(t *testing.T) {
	check := func(s string) {
		l, e := row.Parse(s)
		if e != api.OK && (e != api.ErrForm || len(l) != 0) || e == api.OK && row.Text(l) != s {
			t.Errorf("Parse(%q) = %+v, %d", s, l, e)
		}
	}
	for _, x := range texts {
		for i := range x.s {
			check(x.s[:i] + x.s[i+1:])
			if i > 0 {
				check(x.s[:i-1] + x.s[i:i+1] + x.s[i-1:i] + x.s[i+1:])
			}
		}
	}
}

// Rows are lists of any length.
func TestLongRows(t *testing.T) {
	const long = 100000
	l := slices.Repeat(list(text("a, 'b'"), number(1), null, span(1, 4)), long)
	s := row.Text(l)
	if s != "("+strings.Repeat("'a, ''b''', 1, null, [1,4), ", long-1)+"'a, ''b''', 1, null, [1,4))" {
		t.Error("a long row has another text")
	}
	if got, e := row.Parse(s); !slices.Equal(got, l) || e != api.OK {
		t.Errorf("Parse of a long row: %d", e)
	}
	checkRefused(t, s[:len(s)-1])
	checkRefused(t, s+")")
	checkRefused(t, "("+strings.Repeat(", ", long)+")")
	checkRefused(t, "("+strings.Repeat("'", 2*long+1)+")")
	if row.Compare(l, l[:len(l)-1]) != 1 || row.Compare(l[:len(l)-1], l) != -1 || !row.Same(l, slices.Clone(l)) {
		t.Error("a long row is not where it belongs")
	}
}

// P5.1, P5.2: rows and columns that are handed in stay as they were.
func TestArgumentsStay(t *testing.T) {
	l := append(list(number(9), text("b"), null, number(1), span(1, 4)), invalid...)
	other := list(number(9), text("a"), truth(1))
	cols := types(api.Int, api.Text, api.Bool, api.Int, api.Span)
	was, otherWas, colsWere := slices.Clone(l), slices.Clone(other), slices.Clone(cols)
	row.Fits(l, cols)
	row.Fits(l[:5], cols)
	row.Text(l)
	row.Text(l[:5])
	row.Compare(l, other)
	row.Compare(other, l)
	row.Same(l, other)
	if !slices.Equal(l, was) || !slices.Equal(other, otherWas) || !slices.Equal(cols, colsWere) {
		t.Errorf("%+v, %+v, %+v", l, other, cols)
	}
}

// P5.2: what Parse answers is new each time, and shares no memory with the text.
func TestParseAnswersNewMemory(t *testing.T) {
	given := []byte("('abc', 1, 'd')")
	l, _ := row.Parse(unsafe.String(&given[0], len(given)))
	again, _ := row.Parse(unsafe.String(&given[0], len(given)))
	clear(l)
	copy(given, "('xyz', 2, 'w')")
	if want := list(text("abc"), number(1), text("d")); !slices.Equal(again, want) {
		t.Errorf("Parse answered %+v", again)
	}
}

// P5.2: what Text answers shares no memory with the row.
func TestTextAnswersNewMemory(t *testing.T) {
	given := []byte("abc")
	s := row.Text(list(text(unsafe.String(&given[0], len(given)))))
	copy(given, "xyz")
	if s != "('abc')" {
		t.Errorf("Text answered %q", s)
	}
}

// The chapter's examples.
func TestExamples(t *testing.T) {
	if s := row.Text(list(number(1), text("a"), null)); s != "(1, 'a', null)" {
		t.Errorf("Text = %q", s)
	}
	if s := row.Text(nil); s != "()" {
		t.Errorf("Text = %q", s)
	}
	for _, s := range []string{"(1,2)", "(1, )", "1"} {
		checkRefused(t, s)
	}
	checkCompare(t, list(number(1)), list(number(1), null), -1)
}
