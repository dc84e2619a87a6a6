package expr_test

import (
	"math"
	"slices"
	"strings"
	"testing"

	"covenant/api"
	"covenant/expr"
)

const (
	least    = math.MinInt64
	greatest = math.MaxInt64
)

var (
	null = api.Value{}
	no   = api.Value{Kind: api.Bool}
	yes  = api.Value{Kind: api.Bool, N: 1}
)

func number(n int64) api.Value   { return api.Value{Kind: api.Int, N: n} }
func text(s string) api.Value    { return api.Value{Kind: api.Text, T: s} }
func span(n, hi int64) api.Value { return api.Value{Kind: api.Span, N: n, Hi: hi} }

func lit(v api.Value) api.Expr { return api.Expr{Op: api.Lit, V: v} }
func col(n int) api.Expr       { return api.Expr{Op: api.Col, N: n} }
func of(op uint8, args ...api.Expr) api.Expr {
	return api.Expr{Op: op, Args: args}
}

var (
	longest = strings.Repeat("x", api.MaxText)

	// leaves are what has no Args, unary what has one, binary what has two.
	leaves = []uint8{api.Lit, api.Col}
	unary  = []uint8{api.Neg, api.Not, api.IsNull}
	binary = []uint8{api.Add, api.Sub, api.Mul, api.Equal, api.Less, api.And, api.Or, api.Meet}

	validValues = []api.Value{
		null, number(0), number(-1), number(least), number(greatest), no, yes,
		text(""), text("a"), text("\xff'"), text(longest), span(0, 1), span(-3, 3), span(least, greatest),
	}
	invalidValues = []api.Value{
		{N: 1}, {Hi: 1}, {T: "a"}, {Kind: api.Int, Hi: 1}, {Kind: api.Int, T: "a"}, {Kind: api.Bool, N: 2}, {Kind: api.Bool, N: -1},
		{Kind: api.Text, N: 1}, {Kind: api.Text, T: longest + "x"}, {Kind: api.Span}, {Kind: api.Span, N: 4, Hi: 4}, {Kind: api.Span, N: 5, Hi: 3},
		{Kind: api.Span, N: 1, Hi: 4, T: "a"}, {Kind: api.Span + 1}, {Kind: math.MaxUint8, N: 1},
	}
)

// noOps are the numbers that are no Op.
func noOps() []uint8 {
	var list []uint8
	for op := range 256 {
		if op := uint8(op); !slices.Contains(slices.Concat(leaves, unary, binary), op) {
			list = append(list, op)
		}
	}
	return list
}

// some makes so many Args that are valid.
func some(n int) []api.Expr {
	var args []api.Expr
	for i := range n {
		args = append(args, []api.Expr{lit(number(7)), col(0), of(api.Not, col(3))}[i%3])
	}
	return args
}

// whole is an expression of each Op that is valid.
func whole() []api.Expr {
	list := []api.Expr{lit(null), col(0)}
	for _, op := range unary {
		list = append(list, of(op, some(1)...))
	}
	for _, op := range binary {
		list = append(list, of(op, some(2)...))
	}
	return list
}

func checkMay(t *testing.T, what string, e api.Expr, want bool) {
	t.Helper()
	if got := expr.May(e); got != want {
		t.Errorf("%s: May(%+v) = %v", what, e, got)
	}
}

// checkInvalid checks all that answers ErrForm, or false, for an expression that is invalid.
func checkInvalid(t *testing.T, what string, e api.Expr) {
	t.Helper()
	checkMay(t, what, e, false)
	if kind, err := expr.Type(e, make([]api.Column, 4)); kind != api.Null || err != api.ErrForm {
		t.Errorf("%s: Type(%+v) = %d, %d", what, e, kind, err)
	}
	if v, err := expr.Eval(e, []api.Value{yes, yes, yes, yes}); v != null || err != api.ErrForm {
		t.Errorf("%s: Eval(%+v) = %+v, %d", what, e, v, err)
	}
	if is, err := expr.Yes(e, []api.Value{yes, yes, yes, yes}); e.Op != 0 && (is || err != api.ErrForm) {
		t.Errorf("%s: Yes(%+v) = %v, %d", what, e, is, err)
	}
}

// P3.1: each Op with what it has is valid, whether Args that it does not have are nil or only empty.
func TestMayOfEachOp(t *testing.T) {
	for _, e := range whole() {
		checkMay(t, "what it has", e, true)
		if len(e.Args) == 0 {
			e.Args = []api.Expr{}
			checkMay(t, "an empty list", e, true)
		}
	}
	for _, v := range validValues {
		checkMay(t, "a valid value", lit(v), true)
	}
	for _, n := range []int{0, 1, api.MaxCols, math.MaxInt} {
		checkMay(t, "a column", col(n), true)
	}
}

// P3.1: a field that the Op does not name must be 0, or empty.
func TestMayOfFurtherFields(t *testing.T) {
	for _, e := range whole() {
		if e.Op != api.Col {
			for _, n := range []int{1, -1, math.MaxInt, math.MinInt} {
				with := e
				with.N = n
				checkInvalid(t, "with an N", with)
			}
		}
		if e.Op != api.Lit {
			for _, v := range append(slices.Clone(validValues[1:]), invalidValues...) {
				with := e
				with.V = v
				checkInvalid(t, "with a V", with)
			}
		}
		for n := range 5 {
			with := e
			if with.Args = some(n); n != len(e.Args) {
				checkInvalid(t, "with other Args", with)
			}
		}
	}
}

// P3.1: a Lit of an invalid value, and a Col below 0, are invalid.
func TestMayOfInvalidLeaves(t *testing.T) {
	for _, v := range invalidValues {
		checkInvalid(t, "an invalid value", lit(v))
	}
	for _, n := range []int{-1, -2, math.MinInt} {
		checkInvalid(t, "a column below 0", col(n))
	}
}

// P3.1: an Op that is none is invalid, whatever else there is.
func TestMayOfOpsThatAreNone(t *testing.T) {
	for _, op := range noOps() {
		for n := range 4 {
			checkInvalid(t, "no Op", of(op, some(n)...))
		}
		checkInvalid(t, "no Op, with a value", api.Expr{Op: op, V: yes})
		checkInvalid(t, "no Op, with a column", api.Expr{Op: op, N: 1})
	}
}

// P3.1, P3.6: an expression with an invalid part is invalid, wherever that is.
func TestMayOfInvalidParts(t *testing.T) {
	wrong := []api.Expr{{}, lit(invalidValues[0]), col(-1), of(api.Not), of(api.Add, lit(yes)), of(api.Neg, col(0), col(0)), {Op: api.Lit, N: 1}, {Op: math.MaxUint8}}
	for _, e := range wrong {
		checkInvalid(t, "itself", e)
		for _, op := range unary {
			checkInvalid(t, "as the Arg", of(op, e))
			checkInvalid(t, "as an Arg's Arg", of(api.Or, col(0), of(op, e)))
		}
		for _, op := range binary {
			checkInvalid(t, "as the first Arg", of(op, e, lit(no)))
			checkInvalid(t, "as the second Arg", of(op, lit(no), e))
			checkInvalid(t, "as an Arg's second Arg", of(api.IsNull, of(op, lit(null), e)))
		}
	}
}

// sized makes an expression of so many nodes, with no more levels than that needs.
func sized(n int) api.Expr {
	switch n {
	case 1:
		return lit(yes)
	case 2:
		return of(api.Not, col(0))
	}
	return of(api.And, sized((n-1)/2), sized(n-1-(n-1)/2))
}

// deep makes an expression of so many levels, with no more nodes than that needs.
func deep(n int) api.Expr {
	e := col(0)
	for range n - 1 {
		e = of(api.Not, e)
	}
	return e
}

// P3.1: at most MaxSize nodes, itself included.
func TestMayOfSizes(t *testing.T) {
	for n := 1; n <= 4*api.MaxSize; n++ {
		checkMay(t, "so many nodes", sized(n), n <= api.MaxSize)
	}
	checkInvalid(t, "one node more", sized(api.MaxSize+1))
	checkMay(t, "on two sides", of(api.Or, sized(40), sized(23)), true)
	checkInvalid(t, "one more on the first side", of(api.Or, sized(41), sized(23)))
	checkInvalid(t, "one more on the second side", of(api.Or, sized(40), sized(24)))
	checkInvalid(t, "one more above", of(api.Not, sized(api.MaxSize)))
}

// P3.1: at most MaxDeep levels.
func TestMayOfDepths(t *testing.T) {
	for n := 1; n <= 4*api.MaxDeep; n++ {
		checkMay(t, "so many levels", deep(n), n <= api.MaxDeep)
		checkMay(t, "on the first side", of(api.And, deep(n), lit(yes)), n < api.MaxDeep)
		checkMay(t, "on the second side", of(api.And, lit(yes), deep(n)), n < api.MaxDeep)
	}
	checkInvalid(t, "one level more", deep(api.MaxDeep+1))
	checkMay(t, "both limits", of(api.And, deep(api.MaxDeep-1), sized(api.MaxSize-api.MaxDeep)), true)
	checkInvalid(t, "one node more than both limits", of(api.And, deep(api.MaxDeep-1), sized(api.MaxSize-api.MaxDeep+1)))
}

// endless are expressions that are too large to be gone through part by part: some contain themselves.
func endless() []api.Expr {
	chain := deep(1 << 16)
	shared := col(5)
	for range 100 {
		shared = of(api.And, shared, shared)
	}
	ring := []api.Expr{of(api.And, col(5), col(2))}
	ring[0].Args[0].Args = ring
	knot := []api.Expr{of(api.Or), of(api.And), col(5)}
	knot[0].Args, knot[1].Args = knot[1:], knot[:2]
	return []api.Expr{chain, shared, ring[0], knot[0], knot[1], of(api.And, make([]api.Expr, 1<<20)...)}
}

// P3.1: whatever an expression contains, each call ends.
func TestEndlessExpressions(t *testing.T) {
	wants := [][]int{{0}, {5}, {2, 5}, {5}, {5}, nil}
	for i, e := range endless() {
		if expr.May(e) {
			t.Errorf("%d: May = true", i)
		}
		if _, err := expr.Eval(e, make([]api.Value, 8)); err != api.ErrForm {
			t.Errorf("%d: Eval: %d", i, err)
		}
		if _, err := expr.Type(e, make([]api.Column, 8)); err != api.ErrForm {
			t.Errorf("%d: Type: %d", i, err)
		}
		if !expr.Tame(e) {
			t.Errorf("%d: Tame = false", i)
		}
		if got := expr.Cols(e); !slices.Equal(got, wants[i]) {
			t.Errorf("%d: Cols = %v", i, got)
		}
	}
}

// kinds are the types in the order of the rows and columns of the tables below.
var kinds = []uint8{api.Null, api.Int, api.Bool, api.Text, api.Span}

// typeOf is the type that a letter stands for, - for none that fits.
func typeOf(letter byte) (uint8, api.Errno) {
	switch letter {
	case 'I':
		return api.Int, api.OK
	case 'B':
		return api.Bool, api.OK
	case '0':
		return api.Null, api.OK
	}
	return api.Null, api.ErrType
}

// typesOfOne are the types of each operation on an Arg of each type, typesOfTwo those for each type of the first Arg (a row) and of the second one.
var (
	typesOfOne = map[uint8]string{
		api.Neg:    "0I---",
		api.Not:    "0-B--",
		api.IsNull: "BBBBB",
	}
	typesOfTwo = map[uint8][5]string{
		api.Add:   {"00---", "0I---", "-----", "-----", "-----"},
		api.Sub:   {"00---", "0I---", "-----", "-----", "-----"},
		api.Mul:   {"00---", "0I---", "-----", "-----", "-----"},
		api.Equal: {"00000", "0B---", "0-B--", "0--B-", "0---B"},
		api.Less:  {"00000", "0B---", "0-B--", "0--B-", "0---B"},
		api.And:   {"B-B--", "-----", "B-B--", "-----", "-----"},
		api.Or:    {"B-B--", "-----", "B-B--", "-----", "-----"},
		api.Meet:  {"0---0", "-----", "-----", "-----", "0---B"},
	}
)

// columns are one of each type, in the order of kinds, except that the first one, which no column may be, is a number.
func columns() []api.Column {
	list := make([]api.Column, len(kinds))
	for i, kind := range kinds {
		list[i] = api.Column{Name: "c", Type: max(kind, api.Int)}
	}
	return list
}

// ofKind are expressions of a type over columns.
func ofKind(i int) []api.Expr {
	switch kinds[i] {
	case api.Null:
		return []api.Expr{lit(null), of(api.Neg, lit(null)), of(api.Equal, col(4), lit(null)), of(api.Meet, lit(null), col(4)), of(api.Not, of(api.Less, lit(null), lit(null)))}
	case api.Int:
		return []api.Expr{lit(number(5)), col(1), of(api.Mul, col(0), of(api.Neg, lit(number(least))))}
	case api.Bool:
		return []api.Expr{lit(yes), col(2), of(api.IsNull, lit(null)), of(api.And, lit(null), lit(null)), of(api.Equal, lit(text("")), col(3)), of(api.Or, col(2), lit(null))}
	case api.Text:
		return []api.Expr{lit(text("a")), col(3)}
	}
	return []api.Expr{lit(span(1, 2)), col(4)}
}

func checkType(t *testing.T, e api.Expr, letter byte) {
	t.Helper()
	want, wantErr := typeOf(letter)
	if got, err := expr.Type(e, columns()); got != want || err != wantErr {
		t.Errorf("Type(%+v) = %d, %d, not %d, %d", e, got, err, want, wantErr)
	}
}

// P3.1: the type of each operation, for Args of each type, and ErrType for those that do not fit.
func TestTypeOfOperations(t *testing.T) {
	for i := range kinds {
		for _, a := range ofKind(i) {
			if got, err := expr.Type(a, columns()); got != kinds[i] || err != api.OK {
				t.Errorf("Type(%+v) = %d, %d, not %d", a, got, err, kinds[i])
			}
			for op, row := range typesOfOne {
				checkType(t, of(op, a), row[i])
			}
			for j := range kinds {
				for _, b := range ofKind(j) {
					for op, rows := range typesOfTwo {
						checkType(t, of(op, a, b), rows[i][j])
					}
				}
			}
		}
	}
}

// P3.1: the type of a Lit is the Kind of its V, that of a Col the Type of that column.
func TestTypeOfLeaves(t *testing.T) {
	for _, v := range validValues {
		if got, err := expr.Type(lit(v), nil); got != v.Kind || err != api.OK {
			t.Errorf("Type(%+v) = %d, %d", v, got, err)
		}
	}
	for i, c := range columns() {
		if got, err := expr.Type(col(i), columns()); got != c.Type || err != api.OK {
			t.Errorf("Type of column %d = %d, %d", i, got, err)
		}
	}
}

// P3.1: ErrForm for a column beyond the columns, wherever it stands, and ahead of ErrType.
func TestTypeOfColumnsThatDoNotExist(t *testing.T) {
	for n := range 4 {
		cols := columns()[:n]
		for _, at := range []int{n, n + 1, math.MaxInt} {
			c := col(at)
			for _, e := range []api.Expr{c, of(api.IsNull, c), of(api.Equal, c, lit(null)), of(api.And, lit(number(1)), c), of(api.And, of(api.Not, lit(text("a"))), c)} {
				if kind, err := expr.Type(e, cols); kind != api.Null || err != api.ErrForm {
					t.Errorf("Type(%+v) over %d columns = %d, %d", e, n, kind, err)
				}
			}
		}
	}
}

// P3.1: ErrType from a part that does not fit, whatever is around it.
func TestTypeOfPartsThatDoNotFit(t *testing.T) {
	wrong := of(api.Add, lit(number(1)), lit(text("a")))
	for _, e := range []api.Expr{wrong, of(api.IsNull, wrong), of(api.Equal, lit(null), wrong), of(api.And, wrong, lit(no)), of(api.Or, lit(yes), of(api.IsNull, wrong))} {
		checkType(t, e, '-')
	}
}

// P3.1: Tame is false if there is an operation on numbers, wherever it is, in an expression that is valid or not.
func TestTame(t *testing.T) {
	numbers := []uint8{api.Neg, api.Add, api.Sub, api.Mul}
	var all []uint8
	for op := range 256 {
		all = append(all, uint8(op))
	}
	for _, op := range all {
		want := !slices.Contains(numbers, op)
		for _, outer := range all {
			isTame := want && !slices.Contains(numbers, outer)
			for _, e := range []api.Expr{
				of(outer, of(op)), of(outer, of(op, col(0)), lit(yes)), of(outer, lit(yes), of(op, some(5)...)), of(outer, lit(yes), col(-3), of(api.Lit, of(op))),
				{Op: outer, V: invalidValues[0], N: -1, Args: []api.Expr{{}, {Op: op, V: yes, N: 7}}},
			} {
				if got := expr.Tame(e); got != isTame {
					t.Errorf("Tame(%+v) = %v", e, got)
				}
			}
		}
		if got := expr.Tame(of(op)); got != want {
			t.Errorf("Tame of Op %d = %v", op, got)
		}
	}
	if !expr.Tame(sized(api.MaxSize)) || expr.Tame(of(api.And, sized(500), of(api.Neg, deep(500)))) {
		t.Error("Tame of large expressions")
	}
}

func checkCols(t *testing.T, e api.Expr, want ...int) {
	t.Helper()
	if got := expr.Cols(e); !slices.Equal(got, want) {
		t.Errorf("Cols(%+v) = %v, not %v", e, got, want)
	}
}

// P3.1: Cols of valid expressions.
func TestCols(t *testing.T) {
	checkCols(t, lit(number(3)))
	checkCols(t, col(0), 0)
	checkCols(t, col(math.MaxInt), math.MaxInt)
	checkCols(t, of(api.Add, col(2), col(1)), 1, 2)
	checkCols(t, of(api.Add, col(1), col(1)), 1)
	checkCols(t, of(api.Not, of(api.Less, of(api.Add, col(7), col(3)), of(api.Mul, col(3), of(api.Neg, col(10))))), 3, 7, 10)
	checkCols(t, of(api.And, of(api.And, col(5), col(4)), of(api.And, col(5), of(api.Or, col(0), col(4)))), 0, 4, 5)
}

// P3.1: Cols of expressions that are not valid: the N of each Col, and of nothing else.
func TestColsOfInvalidExpressions(t *testing.T) {
	checkCols(t, api.Expr{})
	checkCols(t, api.Expr{N: 4})
	checkCols(t, col(-1), -1)
	checkCols(t, of(api.Add, col(-1), col(math.MinInt), col(3), col(-1)), math.MinInt, -1, 3)
	checkCols(t, api.Expr{Op: api.Lit, N: 9, Args: []api.Expr{col(2), {Op: api.Col, N: 1, V: yes, Args: []api.Expr{col(8)}}}}, 1, 2, 8)
	checkCols(t, api.Expr{Op: math.MaxUint8, N: 5, Args: []api.Expr{{Op: api.Not, N: 6}, {Op: api.And, Args: []api.Expr{col(2)}}}}, 2)
	many := api.Expr{Op: api.Or}
	var want []int
	for n := range 1000 {
		many.Args = append(many.Args, col(999-n), col(n))
		want = append(want, n)
	}
	checkCols(t, many, want...)
}
