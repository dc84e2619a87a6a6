package key_test

import (
	"math"
	"slices"
	"strings"
	"testing"
	"unsafe"

	"covenant/api"
	"covenant/key"
	"covenant/row"
)

const (
	least    = math.MinInt64
	greatest = math.MaxInt64
)

func number(n int64) api.Value   { return api.Value{Kind: api.Int, N: n} }
func truth(n int64) api.Value    { return api.Value{Kind: api.Bool, N: n} }
func text(s string) api.Value    { return api.Value{Kind: api.Text, T: s} }
func span(n, hi int64) api.Value { return api.Value{Kind: api.Span, N: n, Hi: hi} }

func list(l ...api.Value) []api.Value { return l }
func columns(cols ...int) []int       { return cols }

var (
	null = api.Value{}

	// five is a row with a value of each type, and NULL in the middle.
	five = list(number(7), text("x"), null, truth(1), span(1, 4))

	// wrong are columns that are not valid for a row of five values, nor for one of fewer.
	wrong = [][]int{
		nil, {},
		{-1}, {5}, {6}, {math.MinInt}, {math.MaxInt}, {-5}, {1 << 32}, {-1 << 32},
		{0, -1}, {-1, 0}, {0, 5}, {5, 0}, {0, 1, 5}, {0, 5, 1}, {5, 0, 1}, {0, 1, -1}, {0, -1, 1}, {-1, 0, 1}, {math.MinInt, 0, math.MaxInt}, {-1, 5},
		{0, 0}, {4, 4}, {-1, -1}, {5, 5}, {0, 0, 1}, {1, 0, 0}, {0, 1, 0}, {0, 1, 1}, {1, 1, 0}, {0, 0, 0},
		{0, 1, 2, 3, 0}, {4, 0, 1, 2, 4}, {2, 0, 2, 1, 3}, {0, 1, 2, 3, 3}, {0, 1, 2, 3, -1}, {0, 1, 2, 3, 5}, {1, 2, 3, 4, 5}, {-1, 0, 1, 2, 3},
		{0, 1, 2, 3, 4, 5}, {0, 1, 2, 3, 4, 0}, {0, 1, 2, 3, 4, -1}, {4, 3, 2, 1, 0, 4},
	}
)

func checkMay(t *testing.T, cols []int, n int, want bool) {
	t.Helper()
	if got := key.May(cols, n); got != want {
		t.Errorf("May(%v, %d) = %v", cols, n, got)
	}
}

// P6.1: columns are valid if there is at least one, each is one of the row's, and none is named twice.
func TestMay(t *testing.T) {
	for _, cols := range [][]int{
		{0}, {1}, {2}, {3}, {4}, {0, 1}, {1, 0}, {0, 4}, {4, 0}, {3, 1}, {2, 4, 0}, {4, 2, 3}, {1, 0, 3, 4},
		{0, 1, 2, 3, 4}, {4, 3, 2, 1, 0}, {2, 0, 4, 1, 3},
	} {
		checkMay(t, cols, 5, true)
		checkMay(t, cols, 6, true)
		checkMay(t, cols, math.MaxInt, true)
		checkMay(t, cols, slices.Max(cols)+1, true)
		checkMay(t, cols, slices.Max(cols), false)
		checkMay(t, cols, 0, false)
		checkMay(t, cols, -1, false)
		checkMay(t, cols, -5, false)
		checkMay(t, cols, math.MinInt, false)
	}
}

// P6.1: no columns at all, columns that are not the row's, and those that are named twice are not valid.
func TestMayOfWrongColumns(t *testing.T) {
	for _, cols := range wrong {
		for n := -1; n <= 5; n++ {
			checkMay(t, cols, n, false)
		}
		checkMay(t, cols, math.MinInt, false)
	}
	checkMay(t, nil, math.MaxInt, false)
	checkMay(t, columns(math.MaxInt), math.MaxInt, false)
	checkMay(t, columns(math.MaxInt-1), math.MaxInt, true)
	checkMay(t, columns(math.MaxInt-1, 0), math.MaxInt, true)
	checkMay(t, columns(math.MaxInt-1, 0, math.MaxInt-1), math.MaxInt, false)
	checkMay(t, columns(-1), math.MaxInt, false)
	checkMay(t, columns(math.MinInt, 0), math.MaxInt, false)
}

// P6.1: every column of a row of none, one, many values.
func TestMayOfEveryColumn(t *testing.T) {
	for n := range 20 {
		cols := rising(n)
		checkMay(t, cols, n, n > 0)
		slices.Reverse(cols)
		checkMay(t, cols, n, n > 0)
		checkMay(t, append(cols, n), n, false)
		checkMay(t, append(cols, n), n+1, true)
		for _, again := range cols {
			checkMay(t, append(cols, again), n, false)
			checkMay(t, append(cols, again), n+1, false)
		}
	}
}

// rising are the columns 0 to n less 1.
func rising(n int) []int {
	cols := make([]int, n)
	for i := range n {
		cols[i] = i
	}
	return cols
}

func checkOf(t *testing.T, l []api.Value, cols []int, want []api.Value, wantE api.Errno) {
	t.Helper()
	if got, e := key.Of(l, cols); !slices.Equal(got, want) || e != wantE {
		t.Errorf("Of(%+v, %v) = %+v, %d, not %+v, %d", l, cols, got, e, want, wantE)
	}
}

// P6.1: the key of a row is its values at columns, in the order of the columns.
func TestOf(t *testing.T) {
	for i, v := range five {
		checkOf(t, five, columns(i), list(v), api.OK)
	}
	checkOf(t, list(null), columns(0), list(null), api.OK)
	checkOf(t, list(number(1)), columns(0), list(number(1)), api.OK)
	checkOf(t, five, columns(0, 1), list(number(7), text("x")), api.OK)
	checkOf(t, five, columns(1, 0), list(text("x"), number(7)), api.OK)
	checkOf(t, five, columns(0, 4), list(number(7), span(1, 4)), api.OK)
	checkOf(t, five, columns(4, 0), list(span(1, 4), number(7)), api.OK)
	checkOf(t, five, columns(3, 0, 2), list(truth(1), number(7), null), api.OK)
	checkOf(t, five, rising(5), five, api.OK)
	checkOf(t, five, columns(4, 3, 2, 1, 0), list(span(1, 4), truth(1), null, text("x"), number(7)), api.OK)
	checkOf(t, list(number(1), number(1)), columns(1, 0), list(number(1), number(1)), api.OK)
}

// P6.1: at columns that are invalid it is ErrForm, and no key.
func TestOfAtWrongColumns(t *testing.T) {
	for _, cols := range wrong {
		for n := range len(five) + 1 {
			checkOf(t, five[:n], cols, nil, api.ErrForm)
		}
	}
	checkOf(t, nil, columns(0), nil, api.ErrForm)
	checkOf(t, list(), columns(0), nil, api.ErrForm)
	// What lies behind the end of a row is none of its values.
	checkOf(t, five[:2], columns(2), nil, api.ErrForm)
	checkOf(t, five[:2], columns(0, 4), nil, api.ErrForm)
}

// P6.1: a row's values are not asked to be valid.
func TestOfAnyValues(t *testing.T) {
	for _, v := range odd {
		checkOf(t, list(number(1), v), columns(1, 0), list(v, number(1)), api.OK)
	}
}

// odd are values that are not valid, and not NULL.
var odd = []api.Value{
	{Kind: api.Int, Hi: 1}, {Kind: api.Int, T: "a"}, {Kind: api.Bool, N: 2}, {Kind: api.Text, N: 1}, {Kind: api.Text, T: strings.Repeat("x", api.MaxText+1)},
	{Kind: api.Span}, {Kind: api.Span, N: 4, Hi: 1}, {Kind: api.Span + 1}, {Kind: math.MaxUint8, N: 1},
}

func checkWhole(t *testing.T, k []api.Value, want bool) {
	t.Helper()
	if got := key.Whole(k); got != want {
		t.Errorf("Whole(%+v) = %v", k, got)
	}
}

// P6.1: a key is complete if it has a value, and none that is NULL.
func TestWhole(t *testing.T) {
	checkWhole(t, nil, false)
	checkWhole(t, list(), false)
	checkWhole(t, list(null), false)
	checkWhole(t, list(null, null), false)
	for _, v := range slices.Concat(list(number(0), number(1), number(least), truth(0), truth(1), text(""), text("null"), span(0, 1), span(-1, 0)), odd) {
		checkWhole(t, list(v), true)
		checkWhole(t, list(v, v), true)
		checkWhole(t, list(v, v, v), true)
		checkWhole(t, list(null, v), false)
		checkWhole(t, list(v, null), false)
		checkWhole(t, list(null, v, v), false)
		checkWhole(t, list(v, null, v), false)
		checkWhole(t, list(v, v, null), false)
	}
	for n := 1; n < 20; n++ {
		k := slices.Repeat(list(number(1)), n)
		checkWhole(t, k, true)
		for at := range n {
			k[at] = null
			checkWhole(t, k, false)
			k[at] = number(1)
		}
	}
}

// P6.1: what is of Kind Null is NULL, whatever its other fields are.
func TestWholeOfMarredNulls(t *testing.T) {
	for _, v := range []api.Value{{N: 1}, {Hi: 1}, {T: "a"}} {
		checkWhole(t, list(v), false)
		checkWhole(t, list(number(1), v), false)
		checkSame(t, list(v), list(v), false)
		checkSame(t, list(number(1), v), list(number(1), v), false)
	}
}

func checkSame(t *testing.T, a, b []api.Value, want bool) {
	t.Helper()
	if key.Same(a, b) != want || key.Same(b, a) != want {
		t.Errorf("Same(%+v, %+v) = %v, the other way %v", a, b, key.Same(a, b), key.Same(b, a))
	}
}

// P6.1: keys are the same if both are complete, of one length, and each two values are the same.
func TestSame(t *testing.T) {
	keys := [][]api.Value{
		list(number(1)), list(number(2)), list(truth(1)), list(truth(0)), list(number(0)), list(text("")), list(text("1")), list(text("null")), list(text("yes")), list(text("a")), list(text("A")), list(text("a ")),
		list(span(1, 4)), list(span(1, 5)), list(span(2, 4)), list(number(1), number(1)), list(number(1), number(2)), list(number(2), number(1)), list(number(1), truth(1)), list(truth(1), number(1)),
		list(number(1), text("a")), list(text("a"), number(1)), list(text("1, 1")), list(text("1', '1")), list(text("1"), text("1")), list(text("a"), text("b")), list(text("a', 'b")), list(text("ab"), text("")), list(text(""), text("ab")),
		list(number(1), number(1), number(1)), list(number(1), number(1), number(2)), list(number(1), number(1), truth(1)), list(number(1), number(2), number(1)), list(number(2), number(1), number(1)), list(number(1), text("a"), span(1, 4)), list(number(1), text("a"), span(1, 3)),
		list(number(least)), list(number(greatest)), list(span(least, greatest)),
	}
	for i, a := range keys {
		for k, b := range keys {
			checkSame(t, a, b, i == k)
			checkSame(t, a, slices.Clone(b), i == k)
		}
	}
}

// P6.1: a key of no values, and one with a NULL, wherever it stands, are the same as none, not even as themselves.
func TestSameOfIncompleteKeys(t *testing.T) {
	incomplete := [][]api.Value{
		nil, list(), list(null), list(null, null), list(null, number(1)), list(number(1), null),
		list(null, number(1), text("a")), list(number(1), null, text("a")), list(number(1), text("a"), null),
	}
	for _, a := range incomplete {
		for _, b := range incomplete {
			checkSame(t, a, b, false)
			checkSame(t, a, slices.Clone(b), false)
		}
		for _, b := range [][]api.Value{list(number(0)), list(number(1)), list(text("")), list(text("null")), list(number(1), number(1)), list(number(1), text("a")), list(number(1), number(1), text("a")), list(number(1), text("a"), number(1))} {
			checkSame(t, a, b, false)
		}
	}
}

// P6.1: a key is not the same as one that begins by it.
func TestSameOfUnlikeLengths(t *testing.T) {
	long := list(number(1), text("a"), truth(1), span(1, 4), number(1))
	for n := range len(long) + 1 {
		for m := range len(long) + 1 {
			checkSame(t, long[:n], long[:m], n == m && n > 0)
		}
	}
}

// P6.1: keys are not the same if one value differs, in its Kind alone, or elsewhere, wherever it stands.
func TestSameWhereKeysDiffer(t *testing.T) {
	for n := 1; n <= 9; n++ {
		for at := range n {
			for _, v := range []api.Value{truth(1), number(2), number(-1), text("1"), null, span(1, 2), {Kind: api.Int, N: 1, Hi: 1}, {Kind: api.Int, N: 1, T: "a"}, {Kind: api.Text, N: 1}} {
				a := slices.Repeat(list(number(1)), n)
				b := slices.Clone(a)
				checkSame(t, a, b, true)
				b[at] = v
				checkSame(t, a, b, false)
			}
		}
	}
}

// P6.1: keys of values that are not valid are held against each other by each field.
func TestSameOfAnyValues(t *testing.T) {
	for i, v := range odd {
		for k, w := range odd {
			checkSame(t, list(v), list(w), i == k)
			checkSame(t, list(number(1), v), list(number(1), w), i == k)
		}
	}
}

// P6.1: the text of a key is that of the row of its values.
func TestText(t *testing.T) {
	for _, x := range []struct {
		k []api.Value
		s string
	}{
		{nil, "()"}, {list(), "()"}, {list(number(7)), "(7)"}, {list(number(-7)), "(-7)"}, {list(null), "(null)"}, {list(text("x"), number(7)), "('x', 7)"},
		{list(null, number(1), text("a")), "(null, 1, 'a')"}, {list(number(1), null, text("a")), "(1, null, 'a')"}, {list(number(1), text("a"), null), "(1, 'a', null)"},
		{list(text("it's, here"), truth(0)), "('it''s, here', no)"}, {list(truth(1), span(1, 4)), "(yes, [1,4))"},
	} {
		if got := key.Text(x.k); got != x.s {
			t.Errorf("Text(%+v) = %q, not %q", x.k, got, x.s)
		}
	}
	for _, v := range odd {
		for _, k := range [][]api.Value{list(v), list(v, number(1)), list(number(1), v)} {
			if got := key.Text(k); got != "" || row.Text(k) != "" {
				t.Errorf("Text(%+v) = %q", k, got)
			}
		}
	}
}

func checkSet(t *testing.T, l []api.Value, cols []int, vals, want []api.Value, wantE api.Errno) {
	t.Helper()
	if got, e := key.Set(l, cols, vals); !slices.Equal(got, want) || e != wantE {
		t.Errorf("Set(%+v, %v, %+v) = %+v, %d, not %+v, %d", l, cols, vals, got, e, want, wantE)
	}
}

// P6.2: Set is the row with these values at these columns.
func TestSet(t *testing.T) {
	checkSet(t, list(number(1)), columns(0), list(number(2)), list(number(2)), api.OK)
	checkSet(t, list(number(1), number(2)), columns(0), list(number(5)), list(number(5), number(2)), api.OK)
	checkSet(t, list(number(1), number(2)), columns(1), list(null), list(number(1), null), api.OK)
	checkSet(t, five, columns(0), list(null), list(null, text("x"), null, truth(1), span(1, 4)), api.OK)
	checkSet(t, five, columns(4), list(number(9)), list(number(7), text("x"), null, truth(1), number(9)), api.OK)
	checkSet(t, five, columns(2), list(text("a")), list(number(7), text("x"), text("a"), truth(1), span(1, 4)), api.OK)
	checkSet(t, five, columns(3, 1), list(number(3), number(1)), list(number(7), number(1), null, number(3), span(1, 4)), api.OK)
	checkSet(t, five, columns(4, 0, 2), list(number(4), null, number(2)), list(null, text("x"), number(2), truth(1), number(4)), api.OK)
	checkSet(t, five, rising(5), list(number(0), number(1), number(2), number(3), number(4)), list(number(0), number(1), number(2), number(3), number(4)), api.OK)
	checkSet(t, five, columns(4, 3, 2, 1, 0), list(number(4), number(3), number(2), number(1), number(0)), list(number(0), number(1), number(2), number(3), number(4)), api.OK)
	checkSet(t, five, rising(5), make([]api.Value, 5), make([]api.Value, 5), api.OK)
	for _, v := range odd {
		checkSet(t, list(v, v, null), columns(2, 0), list(v, null), list(null, v, v), api.OK)
	}
}

// P6.2: at columns that are invalid it is ErrForm, and no row, whatever the values are.
func TestSetAtWrongColumns(t *testing.T) {
	for _, cols := range wrong {
		for n := range len(five) + 1 {
			for m := range 8 {
				checkSet(t, five[:n], cols, slices.Repeat(list(number(1)), m), nil, api.ErrForm)
			}
		}
	}
	checkSet(t, nil, nil, nil, nil, api.ErrForm)
	checkSet(t, nil, columns(0), list(number(1)), nil, api.ErrForm)
	checkSet(t, five[:2], columns(2), list(number(1)), nil, api.ErrForm)
}

// P6.2: with fewer values than columns, or more, it is ErrForm.
func TestSetWithAnotherNumberOfValues(t *testing.T) {
	for _, cols := range [][]int{{0}, {4}, {0, 1}, {3, 1, 2}, {4, 3, 2, 1, 0}} {
		for n := range 8 {
			vals := slices.Repeat(list(number(1)), n)
			if n != len(cols) {
				checkSet(t, five, cols, vals, nil, api.ErrForm)
				continue
			}
			if _, e := key.Set(five, cols, vals); e != api.OK {
				t.Errorf("Set at %v: %d", cols, e)
			}
		}
	}
	checkSet(t, five, columns(0), nil, nil, api.ErrForm)
	checkSet(t, five, columns(0), five[:0], nil, api.ErrForm)
}

func checkRefers(t *testing.T, l []api.Value, cols []int, k []api.Value, want bool) {
	t.Helper()
	if got := key.Refers(l, cols, k); got != want {
		t.Errorf("Refers(%+v, %v, %+v) = %v", l, cols, k, got)
	}
}

// P6.2: Refers asks whether the row's key at columns is the same.
func TestRefers(t *testing.T) {
	checkRefers(t, five, columns(0), list(number(7)), true)
	checkRefers(t, five, columns(0), list(number(8)), false)
	checkRefers(t, five, columns(1), list(number(7)), false)
	checkRefers(t, five, columns(4), list(span(1, 4)), true)
	checkRefers(t, five, columns(4), list(span(1, 5)), false)
	checkRefers(t, five, columns(3), list(truth(1)), true)
	checkRefers(t, five, columns(3), list(number(1)), false)
	checkRefers(t, five, columns(0, 1), list(number(7), text("x")), true)
	checkRefers(t, five, columns(1, 0), list(text("x"), number(7)), true)
	checkRefers(t, five, columns(1, 0), list(number(7), text("x")), false)
	checkRefers(t, five, columns(0, 1), list(text("x"), number(7)), false)
	checkRefers(t, five, columns(4, 0, 3), list(span(1, 4), number(7), truth(1)), true)
	checkRefers(t, five, columns(4, 0, 3), list(span(1, 4), number(7), truth(0)), false)
	whole := list(number(1), number(1), number(2))
	checkRefers(t, whole, rising(3), whole, true)
	checkRefers(t, whole, columns(1, 0, 2), whole, true)
	checkRefers(t, whole, columns(2, 1, 0), whole, false)
}

// P6.2: a key of another length, of no values, or with a NULL is not referred to.
func TestRefersToOtherKeys(t *testing.T) {
	checkRefers(t, five, columns(0), nil, false)
	checkRefers(t, five, columns(0), list(), false)
	checkRefers(t, five, columns(0), list(null), false)
	checkRefers(t, five, columns(0), list(number(7), text("x")), false)
	checkRefers(t, five, columns(0, 1), list(number(7)), false)
	checkRefers(t, five, columns(2), list(null), false)
	checkRefers(t, five, columns(2), list(number(0)), false)
	checkRefers(t, five, columns(2, 0), list(null, number(7)), false)
	checkRefers(t, five, columns(0, 2), list(number(7), null), false)
	checkRefers(t, five, columns(0, 2, 1), list(number(7), null, text("x")), false)
	checkRefers(t, five, columns(0, 2), list(number(7)), false)
	checkRefers(t, five, rising(5), five, false)
}

// P6.2: at columns that are invalid it is false, whatever the key.
func TestRefersAtWrongColumns(t *testing.T) {
	whole := list(number(1), number(1), number(1), number(1), number(1))
	for _, cols := range wrong {
		for n := range len(whole) + 1 {
			for m := range 8 {
				checkRefers(t, whole[:n], cols, slices.Repeat(list(number(1)), m), false)
				checkRefers(t, whole[:n], cols, make([]api.Value, m), false)
			}
		}
	}
	checkRefers(t, nil, nil, nil, false)
	checkRefers(t, nil, columns(0), list(number(1)), false)
	checkRefers(t, whole[:2], columns(2), list(number(1)), false)
}

// Rows and keys are lists of any length.
func TestLongRows(t *testing.T) {
	const long = 200000
	l := make([]api.Value, long)
	for i := range l {
		l[i] = number(int64(i))
	}
	cols := rising(long)
	slices.Reverse(cols)
	reversed := slices.Clone(l)
	slices.Reverse(reversed)
	k, e := key.Of(l, cols)
	if e != api.OK || !slices.Equal(k, reversed) || !key.Whole(k) || !key.Refers(l, cols, k) || key.Refers(l, rising(long), k) {
		t.Errorf("the key of a long row: %d", e)
	}
	if set, e := key.Set(l, cols, l); e != api.OK || !slices.Equal(set, reversed) {
		t.Errorf("a long row is set: %d", e)
	}
	checkMay(t, cols, long, true)
	cols[0] = cols[long-1]
	if key.May(cols, long) || key.May(cols, long+1) || key.Refers(l, cols, k) {
		t.Error("a column that is named first and last")
	}
	if k, e := key.Of(l, cols); len(k) != 0 || e != api.ErrForm {
		t.Errorf("the key at such columns: %d", e)
	}
}

// P6.2: what is handed in stays as it was.
func TestArgumentsStay(t *testing.T) {
	backing := append(slices.Clone(five), number(99), text("behind"))
	l, vals, cols := backing[:5], list(text("b"), null, number(3), number(4)), columns(4, 0, 2, 3)
	was, valsWere, colsWere := slices.Clone(backing), slices.Clone(vals), slices.Clone(cols)
	doubled := columns(4, 0, 4, 3)
	doubledWas := slices.Clone(doubled)
	for range 2 {
		key.May(cols, 5)
		key.May(doubled, 5)
		key.Of(l, cols)
		key.Of(l, doubled)
		key.Whole(l)
		key.Same(l, vals)
		key.Same(vals, l)
		key.Set(l, cols, vals)
		key.Set(l, doubled, vals)
		key.Set(l, cols[:3], vals[:3])
		key.Refers(l, cols, vals)
		key.Refers(l, doubled, vals)
		key.Text(l)
	}
	if !slices.Equal(backing, was) || !slices.Equal(vals, valsWere) || !slices.Equal(cols, colsWere) || !slices.Equal(doubled, doubledWas) {
		t.Errorf("%+v, %+v, %v, %v", backing, vals, cols, doubled)
	}
}

// P6.2: what Of and Set answer is not changed with the arguments, nor they with it.
func TestAnswersAreNewMemory(t *testing.T) {
	l, vals := slices.Clone(five), list(number(3), text("b"))
	k, _ := key.Of(l, rising(5))
	part, _ := key.Of(l, columns(0, 1))
	set, _ := key.Set(l, columns(2, 0), vals)
	all, _ := key.Set(l, rising(5), five)
	clear(l)
	clear(vals)
	if !slices.Equal(k, five) || !slices.Equal(part, five[:2]) || !slices.Equal(all, five) || !slices.Equal(set, list(text("b"), text("x"), number(3), truth(1), span(1, 4))) {
		t.Errorf("%+v, %+v, %+v, %+v", k, part, set, all)
	}
	l = slices.Clone(five)
	for _, answer := range [][]api.Value{mustOf(l, rising(5)), mustOf(l, columns(0, 1)), mustSet(l, columns(0), l[:1]), mustSet(l, rising(5), l)} {
		clear(answer)
		clear(answer[:cap(answer)])
	}
	if !slices.Equal(l, five) {
		t.Errorf("%+v", l)
	}
}

func mustOf(l []api.Value, cols []int) []api.Value {
	k, e := key.Of(l, cols)
	if e != api.OK {
		panic(e)
	}
	return k
}

func mustSet(l []api.Value, cols []int, vals []api.Value) []api.Value {
	set, e := key.Set(l, cols, vals)
	if e != api.OK {
		panic(e)
	}
	return set
}

// P6.2: what Of, Set and Text answer shares no text with the arguments.
func TestTextsAreNewMemory(t *testing.T) {
	inRow, inVals := []byte("abc"), []byte("def")
	l := list(number(1), text(unsafe.String(&inRow[0], len(inRow))), null)
	vals := list(text(unsafe.String(&inVals[0], len(inVals))))
	k := mustOf(l, columns(1, 0))
	set := mustSet(l, columns(2), vals)
	s := key.Text(l)
	copy(inRow, "xyz")
	copy(inVals, "uvw")
	if k[0] != text("abc") || set[1] != text("abc") || set[2] != text("def") || s != "(1, 'abc', null)" {
		t.Errorf("%+v, %+v, %q", k, set, s)
	}
}

// The chapter's examples.
func TestExamples(t *testing.T) {
	l := list(number(7), null, text("x"))
	checkOf(t, l, columns(2, 0), list(text("x"), number(7)), api.OK)
	checkWhole(t, mustOf(l, columns(2, 0)), true)
	checkOf(t, l, columns(1), list(null), api.OK)
	checkWhole(t, mustOf(l, columns(1)), false)
	checkSet(t, list(number(1), number(2)), columns(1), list(number(5)), list(number(1), number(5)), api.OK)
	checkRefers(t, list(number(7), text("x")), columns(0), list(number(7)), true)
	checkOf(t, l, columns(0, 0), nil, api.ErrForm)
}
