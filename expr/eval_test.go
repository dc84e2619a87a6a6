package expr_test

import (
	"math"
	"slices"
	"strings"
	"testing"
	"unsafe"

	"covenant/api"
	"covenant/expr"
	"covenant/logic"
)

func checkEval(t *testing.T, e api.Expr, row []api.Value, want api.Value, wantErr api.Errno) {
	t.Helper()
	if got, err := expr.Eval(e, row); got != want || err != wantErr {
		t.Errorf("Eval(%+v, %+v) = %+v, %d, not %+v, %d", e, row, got, err, want, wantErr)
	}
}

func checkYes(t *testing.T, e api.Expr, row []api.Value, want bool, wantErr api.Errno) {
	t.Helper()
	if got, err := expr.Yes(e, row); got != want || err != wantErr {
		t.Errorf("Yes(%+v, %+v) = %v, %d, not %v, %d", e, row, got, err, want, wantErr)
	}
}

// P3.2: the result of a Lit is its V, that of a Col the value of the row, whatever that is.
func TestEvalOfLeaves(t *testing.T) {
	for _, v := range validValues {
		checkEval(t, lit(v), nil, v, api.OK)
		checkEval(t, lit(v), []api.Value{number(3)}, v, api.OK)
	}
	row := slices.Concat(validValues, invalidValues)
	for n, v := range row {
		checkEval(t, col(n), row, v, api.OK)
	}
}

// functions are those of logic, by the Ops whose results are theirs.
func functions() (map[uint8]func(a api.Value) (api.Value, api.Errno), map[uint8]func(a, b api.Value) (api.Value, api.Errno)) {
	isNull := func(a api.Value) (api.Value, api.Errno) { return logic.IsNull(a), api.OK }
	one := map[uint8]func(a api.Value) (api.Value, api.Errno){api.Neg: logic.Neg, api.Not: logic.Not, api.IsNull: isNull}
	two := map[uint8]func(a, b api.Value) (api.Value, api.Errno){
		api.Add: logic.Add, api.Sub: logic.Sub, api.Mul: logic.Mul, api.Equal: logic.Equal, api.Less: logic.Less, api.And: logic.And, api.Or: logic.Or,
	}
	return one, two
}

// P3.2: the results of the operations are those of the functions of logic, for values of all Kinds, invalid ones in the row among them.
func TestEvalOfOperations(t *testing.T) {
	one, two := functions()
	for _, a := range slices.Concat(validValues, invalidValues) {
		for op, f := range one {
			want, err := f(a)
			checkEval(t, of(op, col(0)), []api.Value{a}, want, err)
		}
		for _, b := range slices.Concat(validValues, invalidValues) {
			for op, f := range two {
				want, err := f(a, b)
				checkEval(t, of(op, col(1), col(0)), []api.Value{b, a}, want, err)
			}
		}
	}
	for _, a := range validValues {
		for _, b := range validValues {
			for op, f := range two {
				want, err := f(a, b)
				checkEval(t, of(op, lit(a), lit(b)), nil, want, err)
			}
		}
	}
}

// P3.2: each operation by its results, so that none is another one.
func TestEvalOfEachOperation(t *testing.T) {
	row := []api.Value{number(7), number(3), yes, no, text("a"), text("b"), span(1, 4), span(1, 5), null}
	for _, x := range []struct {
		op   uint8
		args []int
		want api.Value
	}{
		{api.Neg, []int{0}, number(-7)}, {api.Neg, []int{8}, null},
		{api.Not, []int{2}, no}, {api.Not, []int{3}, yes}, {api.Not, []int{8}, null},
		{api.IsNull, []int{0}, no}, {api.IsNull, []int{4}, no}, {api.IsNull, []int{6}, no}, {api.IsNull, []int{8}, yes},
		{api.Add, []int{0, 1}, number(10)}, {api.Sub, []int{0, 1}, number(4)}, {api.Sub, []int{1, 0}, number(-4)}, {api.Mul, []int{0, 1}, number(21)},
		{api.Add, []int{0, 8}, null}, {api.Sub, []int{8, 0}, null}, {api.Mul, []int{8, 8}, null},
		{api.Equal, []int{0, 0}, yes}, {api.Equal, []int{0, 1}, no}, {api.Equal, []int{4, 4}, yes}, {api.Equal, []int{2, 3}, no}, {api.Equal, []int{6, 7}, no},
		{api.Equal, []int{8, 8}, null}, {api.Equal, []int{8, 4}, null},
		{api.Less, []int{1, 0}, yes}, {api.Less, []int{0, 1}, no}, {api.Less, []int{0, 0}, no}, {api.Less, []int{3, 2}, yes}, {api.Less, []int{4, 5}, yes},
		{api.Less, []int{5, 4}, no}, {api.Less, []int{6, 7}, yes}, {api.Less, []int{7, 6}, no}, {api.Less, []int{8, 6}, null}, {api.Less, []int{2, 8}, null},
		{api.And, []int{2, 2}, yes}, {api.And, []int{2, 3}, no}, {api.And, []int{3, 8}, no}, {api.And, []int{8, 3}, no}, {api.And, []int{2, 8}, null}, {api.And, []int{8, 8}, null},
		{api.Or, []int{3, 3}, no}, {api.Or, []int{2, 3}, yes}, {api.Or, []int{2, 8}, yes}, {api.Or, []int{8, 2}, yes}, {api.Or, []int{3, 8}, null}, {api.Or, []int{8, 8}, null},
	} {
		var args []api.Expr
		for _, n := range x.args {
			args = append(args, col(n))
		}
		checkEval(t, of(x.op, args...), row, x.want, api.OK)
	}
}

// P3.2: spans meet if some number is in both; those that only touch do not.
func TestEvalOfMeet(t *testing.T) {
	for _, x := range []struct {
		a, b api.Value
		want api.Value
	}{
		{span(1, 3), span(2, 5), yes}, {span(1, 3), span(3, 5), no}, {span(1, 3), span(4, 5), no}, {span(1, 3), span(1, 3), yes},
		{span(1, 9), span(4, 5), yes}, {span(1, 2), span(1, 9), yes}, {span(8, 9), span(1, 9), yes}, {span(9, 10), span(1, 9), no},
		{span(-5, 0), span(0, 5), no}, {span(-5, 1), span(0, 5), yes}, {span(-5, -1), span(-2, 5), yes},
		{span(least, least+1), span(least, greatest), yes}, {span(greatest-1, greatest), span(least, greatest), yes},
		{span(least, greatest-1), span(greatest-1, greatest), no}, {span(least, 0), span(0, greatest), no}, {span(least, 1), span(0, greatest), yes},
		{null, span(1, 3), null}, {null, null, null},
		// An invalid one, of a row, is the numbers from N on, below Hi: there are none.
		{span(4, 4), span(1, 9), no}, {span(5, 3), span(1, 9), no}, {span(4, 4), span(4, 4), no}, {span(9, 1), span(9, 1), no},
		{api.Value{Kind: api.Span, N: 1, Hi: 3, T: "a"}, span(2, 5), yes},
	} {
		checkEval(t, of(api.Meet, col(0), col(1)), []api.Value{x.a, x.b}, x.want, api.OK)
		checkEval(t, of(api.Meet, col(1), col(0)), []api.Value{x.a, x.b}, x.want, api.OK)
	}
	wrong := []api.Value{number(2), yes, text("a"), {Kind: api.Span + 1, N: 1, Hi: 9}}
	for _, v := range wrong {
		for _, w := range append(wrong, span(1, 3)) {
			checkEval(t, of(api.Meet, col(0), col(1)), []api.Value{v, w}, null, api.ErrType)
			checkEval(t, of(api.Meet, col(1), col(0)), []api.Value{v, w}, null, api.ErrType)
		}
		checkEval(t, of(api.Meet, col(0), lit(null)), []api.Value{v}, null, api.OK)
		checkEval(t, of(api.Meet, lit(null), col(0)), []api.Value{v}, null, api.OK)
	}
}

var (
	// beyond is out of range, mixed of another type.
	beyond = of(api.Add, lit(number(greatest)), lit(number(1)))
	mixed  = of(api.Neg, lit(text("a")))
)

// P3.2: an error of either Arg is the result, also if the other one determines it already.
func TestEvalOfArgsThatAreErrors(t *testing.T) {
	for _, v := range []api.Value{null, yes, no, number(0), text("a"), span(1, 2)} {
		for _, op := range binary {
			checkEval(t, of(op, lit(v), beyond), nil, null, api.ErrRange)
			checkEval(t, of(op, beyond, lit(v)), nil, null, api.ErrRange)
			checkEval(t, of(op, lit(v), mixed), nil, null, api.ErrType)
			checkEval(t, of(op, mixed, lit(v)), nil, null, api.ErrType)
		}
	}
	for _, op := range unary {
		checkEval(t, of(op, beyond), nil, null, api.ErrRange)
		checkEval(t, of(op, mixed), nil, null, api.ErrType)
	}
}

// P3.2: of two errors that of the first Arg is the result, and those of Args go ahead of the operation's own.
func TestEvalOfTwoErrors(t *testing.T) {
	for _, op := range binary {
		checkEval(t, of(op, beyond, mixed), nil, null, api.ErrRange)
		checkEval(t, of(op, mixed, beyond), nil, null, api.ErrType)
		checkEval(t, of(op, of(api.IsNull, beyond), of(api.Not, mixed)), nil, null, api.ErrRange)
		checkEval(t, of(op, of(api.Or, lit(yes), mixed), of(api.IsNull, beyond)), nil, null, api.ErrType)
	}
	checkEval(t, of(api.And, lit(text("a")), beyond), nil, null, api.ErrRange)
}

// P3.2: ErrForm for a column that the row does not have, ahead of all errors of the evaluation.
func TestEvalOfColumnsBeyondTheRow(t *testing.T) {
	for n := range 4 {
		row := make([]api.Value, n, 8)
		for _, at := range []int{n, n + 1, 7, math.MaxInt} {
			c := col(at)
			for _, e := range []api.Expr{c, of(api.Not, c), of(api.And, lit(no), c), of(api.And, c, lit(no)), of(api.Add, beyond, c), of(api.Equal, mixed, c), of(api.Or, of(api.IsNull, c), mixed)} {
				checkEval(t, e, row, null, api.ErrForm)
				checkYes(t, e, row, false, api.ErrForm)
			}
		}
	}
}

// sum adds so many numbers, each of them 1, in a tree with as few levels as that needs.
func sum(n int) api.Expr {
	if n == 1 {
		return lit(number(1))
	}
	return of(api.Add, sum(n/2), sum(n-n/2))
}

// P3.2: an expression at the limits has a result, one beyond them ErrForm.
func TestEvalAtTheLimits(t *testing.T) {
	checkEval(t, deep(api.MaxDeep), []api.Value{yes}, no, api.OK)
	checkEval(t, deep(api.MaxDeep-1), []api.Value{yes}, yes, api.OK)
	checkEval(t, deep(api.MaxDeep+1), []api.Value{yes}, null, api.ErrForm)
	for n := 1; n <= api.MaxSize/2; n++ {
		checkEval(t, sum(n), nil, number(int64(n)), api.OK)
	}
	checkEval(t, of(api.Neg, sum(api.MaxSize/2)), nil, number(-api.MaxSize/2), api.OK)
	checkEval(t, sum(api.MaxSize/2+1), nil, null, api.ErrForm)
	checkYes(t, sized(api.MaxSize-1), []api.Value{no}, true, api.OK)
	checkYes(t, of(api.Not, sized(api.MaxSize-1)), []api.Value{no}, false, api.OK)
	checkYes(t, sized(api.MaxSize+1), []api.Value{no}, false, api.ErrForm)
}

// P3.2: Yes is true for yes alone, and refuses what is neither a truth value nor NULL.
func TestYes(t *testing.T) {
	for _, v := range slices.Concat(validValues, invalidValues) {
		want, wantErr := logic.Yes(v), api.OK
		if v.Kind != api.Bool && v.Kind != api.Null {
			wantErr = api.ErrType
		}
		checkYes(t, col(0), []api.Value{v}, want, wantErr)
	}
	checkYes(t, lit(yes), nil, true, api.OK)
	checkYes(t, lit(no), nil, false, api.OK)
	checkYes(t, lit(null), nil, false, api.OK)
	checkYes(t, lit(number(1)), nil, false, api.ErrType)
	checkYes(t, lit(text("yes")), nil, false, api.ErrType)
	checkYes(t, lit(span(0, 1)), nil, false, api.ErrType)
	checkYes(t, of(api.Neg, lit(null)), nil, false, api.OK)
	checkYes(t, of(api.Neg, lit(number(1))), nil, false, api.ErrType)
	checkYes(t, of(api.Less, lit(number(1)), lit(number(2))), nil, true, api.OK)
	checkYes(t, of(api.Less, lit(number(2)), lit(number(1))), nil, false, api.OK)
	checkYes(t, of(api.And, lit(no), beyond), nil, false, api.ErrRange)
	checkYes(t, of(api.And, lit(no), mixed), nil, false, api.ErrType)
}

// P3.2: an expression of Op 0 is yes, whatever else it has.
func TestYesWithoutAnOp(t *testing.T) {
	for _, e := range append(endless(), whole()...) {
		e.Op = 0
		checkYes(t, e, nil, true, api.OK)
		e.V, e.N = invalidValues[0], -1
		checkYes(t, e, []api.Value{no}, true, api.OK)
	}
	checkYes(t, api.Expr{}, nil, true, api.OK)
	for _, op := range noOps()[1:] {
		checkYes(t, api.Expr{Op: op}, nil, false, api.ErrForm)
	}
}

// sharesText reports whether two texts stand in one place.
func sharesText(a, b string) bool { return unsafe.StringData(a) == unsafe.StringData(b) }

// P3.1, P3.2: what is handed in stays as it is, and an answer is new.
func TestAnswersAreNew(t *testing.T) {
	word := strings.Repeat("w", 20)
	row := []api.Value{text(word), number(4), null}
	was := slices.Clone(row)
	e := of(api.And, of(api.Equal, col(0), lit(text(word))), of(api.Less, col(1), col(2)))
	for range 2 {
		checkEval(t, e, row, null, api.OK)
		checkCols(t, e, 0, 1, 2)
		clear(expr.Cols(e))
	}
	if !slices.Equal(row, was) {
		t.Errorf("the row became %+v", row)
	}
	for _, e := range []api.Expr{col(0), lit(text(word))} {
		if v, err := expr.Eval(e, row); v != text(word) || err != api.OK || sharesText(v.T, word) {
			t.Errorf("Eval(%+v) = %+v, %d, or shares its text", e, v, err)
		}
	}
}

// The examples of the chapter.
func TestExamples(t *testing.T) {
	more := of(api.Add, col(0), lit(number(1)))
	checkEval(t, more, []api.Value{number(4)}, number(5), api.OK)
	checkEval(t, more, []api.Value{null}, null, api.OK)
	checkEval(t, more, []api.Value{number(9223372036854775807)}, null, api.ErrRange)
	checkEval(t, more, []api.Value{text("a")}, null, api.ErrType)
	checkEval(t, more, nil, null, api.ErrForm)
	checkEval(t, of(api.And, lit(no), more), []api.Value{number(9223372036854775807)}, null, api.ErrRange)
	checkEval(t, of(api.Meet, lit(span(1, 3)), lit(span(2, 5))), nil, yes, api.OK)
	checkEval(t, of(api.Meet, lit(span(1, 3)), lit(span(3, 5))), nil, no, api.OK)
}
