package expr_test

import (
	"math/rand/v2"
	"slices"
	"testing"

	"covenant/api"
	"covenant/expr"
	"covenant/value"
)

// rounds is how many expressions each law is held against.
const rounds = 20000

// maker makes expressions and rows, the same ones in each run.
type maker struct{ *rand.Rand }

func newMaker() maker { return maker{rand.New(rand.NewPCG(3, 8))} }

// pick is one of a list.
func pick[T any](m maker, list ...T) T { return list[m.IntN(len(list))] }

// columnsOfLaws are two of each type.
func columnsOfLaws() []api.Column {
	var cols []api.Column
	for kind := api.Int; kind <= api.Span; kind++ {
		cols = append(cols, api.Column{Name: "a", Type: kind}, api.Column{Name: "b", Type: kind})
	}
	return cols
}

// value is one that fits a type.
func (m maker) value(kind uint8) api.Value {
	if m.IntN(6) == 0 {
		return null
	}
	switch kind {
	case api.Int:
		return number(pick[int64](m, 0, 1, -1, 2, 3, 1<<32, least, greatest))
	case api.Bool:
		return pick(m, no, yes)
	case api.Text:
		return text(pick(m, "", "a", "b", "ab"))
	}
	from := pick[int64](m, 0, 1, 2, least)
	return span(from, from+pick[int64](m, 1, 2, 3))
}

// row is one that fits the columns.
func (m maker) row() []api.Value {
	var row []api.Value
	for _, c := range columnsOfLaws() {
		row = append(row, m.value(c.Type))
	}
	return row
}

// typed makes an expression whose type is the given one, or Null.
func (m maker) typed(kind uint8, levels int) api.Expr {
	arg := func(kind uint8) api.Expr { return m.typed(kind, levels-1) }
	if levels > 1 && m.IntN(5) > 0 {
		switch kind {
		case api.Int:
			if m.IntN(4) == 0 {
				return of(api.Neg, arg(api.Int))
			}
			return of(pick(m, api.Add, api.Sub, api.Mul), arg(api.Int), arg(api.Int))
		case api.Bool:
			sort := pick(m, api.Int, api.Bool, api.Text, api.Span)
			switch m.IntN(6) {
			case 0:
				return of(api.Not, arg(api.Bool))
			case 1:
				return of(api.IsNull, arg(sort))
			case 2:
				return of(api.Meet, arg(api.Span), arg(api.Span))
			case 3:
				return of(pick(m, api.Equal, api.Less), arg(sort), arg(sort))
			}
			return of(pick(m, api.And, api.Or), arg(api.Bool), arg(api.Bool))
		}
	}
	if m.IntN(2) == 0 {
		return lit(m.value(kind))
	}
	return col(2*int(kind-api.Int) + m.IntN(2))
}

// loose makes a valid expression, whether it has a type or not.
func (m maker) loose(levels int) api.Expr {
	switch {
	case levels == 1 || m.IntN(4) == 0:
		return m.typed(pick(m, api.Int, api.Bool, api.Text, api.Span), 1)
	case m.IntN(3) == 0:
		return of(pick(m, unary...), m.loose(levels-1))
	}
	return of(pick(m, binary...), m.loose(levels-1), m.loose(levels-1))
}

// P3.3, P3.4: what has a type causes no error but ErrRange, and none if it is tame, and its result fits the type.
func TestLawsOfTypes(t *testing.T) {
	m := newMaker()
	count := map[string]int{}
	for range rounds {
		e := m.loose(4)
		if m.IntN(2) == 0 {
			e = m.typed(pick(m, api.Int, api.Bool), 5)
		}
		kind, err := expr.Type(e, columnsOfLaws())
		if err != api.OK {
			count["no type"]++
			continue
		}
		v, err := expr.Eval(e, m.row())
		switch {
		case err == api.ErrRange && !expr.Tame(e):
			count["range"]++
		case err != api.OK || !value.May(v) || v.Kind != kind && v != null:
			t.Fatalf("Eval(%+v) = %+v, %d, of type %d", e, v, err, kind)
		case v == null:
			count["null"]++
		case expr.Tame(e):
			count["tame"]++
		default:
			count["wild"]++
		}
	}
	for _, what := range []string{"no type", "range", "null", "tame", "wild"} {
		if count[what] < rounds/100 {
			t.Errorf("too few are tried: %v", count)
		}
	}
}

// P3.1: what is made of parts that fit has a type.
func TestTypedExpressionsHaveTypes(t *testing.T) {
	m := newMaker()
	for range rounds {
		kind := pick(m, api.Int, api.Bool, api.Text, api.Span)
		e := m.typed(kind, 5)
		if got, err := expr.Type(e, columnsOfLaws()); err != api.OK || got != kind && got != api.Null {
			t.Fatalf("Type(%+v) = %d, %d, not %d", e, got, err, kind)
		}
	}
}

// P3.5: the result depends only on the values at the columns that an expression names.
func TestLawOfColumns(t *testing.T) {
	m := newMaker()
	for range rounds {
		e, row := m.loose(4), m.row()
		other := slices.Concat(invalidValues, m.row())[:len(row)]
		for _, n := range expr.Cols(e) {
			other[n] = row[n]
		}
		v, err := expr.Eval(e, row)
		w, again := expr.Eval(e, other)
		if v != w || err != again {
			t.Fatalf("Eval(%+v) = %+v, %d, over %+v %+v, %d", e, v, err, other, w, again)
		}
	}
}

// count is how many nodes and levels an expression has.
func count(e api.Expr) (size, deepest int) {
	for _, arg := range e.Args {
		n, levels := count(arg)
		size += n
		deepest = max(deepest, levels)
	}
	return size + 1, deepest + 1
}

// P3.6: the Args of a valid expression are valid, and two valid ones may be combined exactly within the limits.
func TestLawsOfParts(t *testing.T) {
	m := newMaker()
	seen := [2]int{}
	for range rounds {
		a, b := m.loose(1+m.IntN(8)), m.loose(1+m.IntN(8))
		switch m.IntN(4) {
		case 0:
			a = deep(1 + m.IntN(api.MaxDeep+2))
		case 1:
			a = sized(1 + m.IntN(api.MaxSize+8))
		case 2:
			b = sized(1 + m.IntN(api.MaxSize+8))
		}
		sizeA, deepA := count(a)
		sizeB, deepB := count(b)
		if may := sizeA <= api.MaxSize && deepA <= api.MaxDeep; expr.May(a) != may {
			t.Fatalf("May(%+v) = %v, of %d nodes, %d levels", a, !may, sizeA, deepA)
		}
		both := of(api.And, a, b)
		may := sizeA+sizeB < api.MaxSize && deepA < api.MaxDeep && deepB < api.MaxDeep
		if expr.May(both) != may {
			t.Fatalf("May(%+v) = %v", both, !may)
		}
		if may {
			seen[1]++
		} else {
			seen[0]++
		}
		if expr.May(a) && slices.ContainsFunc(a.Args, func(arg api.Expr) bool { return !expr.May(arg) }) {
			t.Fatalf("an Arg of %+v is not valid", a)
		}
	}
	if min(seen[0], seen[1]) < rounds/20 {
		t.Errorf("too few are tried: %v", seen)
	}
}

// replaced puts a Lit of its value in the place of a Col, everywhere.
func replaced(e api.Expr, n int, v api.Value) api.Expr {
	if e.Op == api.Col && e.N == n {
		return lit(v)
	}
	args := make([]api.Expr, len(e.Args))
	for i, arg := range e.Args {
		args[i] = replaced(arg, n, v)
	}
	e.Args = args
	return e
}

// P3.7: with the value of its column as a Lit in the place of a Col the result is the same.
func TestLawOfSubstitution(t *testing.T) {
	m := newMaker()
	for range rounds {
		e, row := m.loose(4), m.row()
		v, err := expr.Eval(e, row)
		for _, n := range expr.Cols(e) {
			with := replaced(e, n, row[n])
			if w, again := expr.Eval(with, row); v != w || err != again {
				t.Fatalf("Eval(%+v, %+v) = %+v, %d, Eval(%+v) = %+v, %d", e, row, v, err, with, w, again)
			}
			if slices.Contains(expr.Cols(with), n) {
				t.Fatalf("Cols(%+v) = %v", with, expr.Cols(with))
			}
		}
	}
}

// P3.8: Not of And is Or of the Nots where none is an error; where one side is an error, so are both combined, in either order.
func TestLawsOfTruthValues(t *testing.T) {
	m := newMaker()
	failed := 0
	for range rounds {
		a, b, row := m.loose(3), m.typed(api.Bool, 4), m.row()
		_, errA := expr.Eval(a, row)
		_, errB := expr.Eval(b, row)
		if errA != api.OK || errB != api.OK {
			failed++
			for _, op := range []uint8{api.And, api.Or} {
				_, ab := expr.Eval(of(op, a, b), row)
				_, ba := expr.Eval(of(op, b, a), row)
				if ab == api.OK || ba == api.OK {
					t.Fatalf("Op %d of %+v (%d) and %+v (%d): %d, %d", op, a, errA, b, errB, ab, ba)
				}
			}
			continue
		}
		v, err := expr.Eval(of(api.Not, of(api.And, a, b)), row)
		w, again := expr.Eval(of(api.Or, of(api.Not, a), of(api.Not, b)), row)
		if v != w || err != again {
			t.Fatalf("Not of And of %+v and %+v = %+v, %d, Or of the Nots %+v, %d", a, b, v, err, w, again)
		}
	}
	if failed < rounds/20 || failed > rounds/20*19 {
		t.Errorf("too few are tried: %d of %d are errors", failed, rounds)
	}
}
