package logic_test

import (
	"math"
	"math/big"
	"strings"
	"testing"

	"covenant/api"
	"covenant/logic"
)

const (
	least    = math.MinInt64
	greatest = math.MaxInt64
)

var (
	null = api.Value{}
	no   = api.Value{Kind: api.Bool}
	yes  = api.Value{Kind: api.Bool, N: 1}
)

func number(n int64) api.Value            { return api.Value{Kind: api.Int, N: n} }
func text(s string) api.Value             { return api.Value{Kind: api.Text, T: s} }
func span(n, hi int64) api.Value          { return api.Value{Kind: api.Span, N: n, Hi: hi} }
func other(kind uint8, n int64) api.Value { return api.Value{Kind: kind, N: n} }

func truth(b bool) api.Value {
	if b {
		return yes
	}
	return no
}

// The functions of one value, and of two.
type (
	unary  func(a api.Value) (api.Value, api.Errno)
	binary func(a, b api.Value) (api.Value, api.Errno)
)

// check fails unless a result is what is wanted.
func check(t *testing.T, what string, got api.Value, e api.Errno, want api.Value, wantE api.Errno) {
	t.Helper()
	if got != want || e != wantE {
		t.Errorf("%s = %+v, %d, not %+v, %d", what, got, e, want, wantE)
	}
}

func checkOne(t *testing.T, name string, f unary, a, want api.Value, wantE api.Errno) {
	t.Helper()
	if got, e := f(a); got != want || e != wantE {
		t.Errorf("%s(%+v) = %+v, %d, not %+v, %d", name, a, got, e, want, wantE)
	}
}

func checkTwo(t *testing.T, name string, f binary, a, b, want api.Value, wantE api.Errno) {
	t.Helper()
	if got, e := f(a, b); got != want || e != wantE {
		t.Errorf("%s(%+v, %+v) = %+v, %d, not %+v, %d", name, a, b, got, e, want, wantE)
	}
}

// yeses are truth values that are yes, most of them not valid; nos those that are no; nulls those that are NULL.
var (
	yeses = []api.Value{yes, other(api.Bool, 2), other(api.Bool, -1), other(api.Bool, least), other(api.Bool, greatest), {Kind: api.Bool, N: 1, Hi: 7, T: "a"}}
	nos   = []api.Value{no, {Kind: api.Bool, Hi: 1}, {Kind: api.Bool, T: "yes"}}
	nulls = []api.Value{null, {N: 1}, {N: -1, Hi: 5, T: "a"}, {T: "null"}}
)

// truths are all of them, each with what it is taken as.
func truths() map[api.Value]api.Value {
	all := map[api.Value]api.Value{}
	for _, v := range yeses {
		all[v] = yes
	}
	for _, v := range nos {
		all[v] = no
	}
	for _, v := range nulls {
		all[v] = null
	}
	return all
}

// edges are the numbers near 0, near each power of two and near the ends of int64, and some about the root of the greatest one.
func edges() []int64 {
	list := []int64{0, 3, -3, 5, -5, 7, 10, 3037000499, 3037000500, -3037000499, -3037000500, least / 3, greatest / 3, greatest / 5, least / 7}
	for bit := range 64 {
		for d := int64(-1); d <= 1; d++ {
			n := int64(1)<<bit + d
			list = append(list, n, -n)
		}
	}
	return list
}

// nonTruths and nonNumbers are each neither a value of that sort nor NULL.
var (
	nonTruths  = []api.Value{number(0), number(1), text(""), text("yes"), span(0, 1), {Kind: api.Int, T: "x"}, other(api.Span+1, 1), other(math.MaxUint8, 0)}
	nonNumbers = []api.Value{no, yes, text(""), text("5"), span(0, 1), other(api.Bool, 2), other(api.Span+1, 5), other(math.MaxUint8, 0)}
)

// P2.1: Yes is of a Bool whose N is not 0.
func TestYes(t *testing.T) {
	for v, want := range truths() {
		if got := logic.Yes(v); got != (want == yes) {
			t.Errorf("Yes(%+v) = %v", v, got)
		}
	}
	for _, v := range nonTruths {
		if logic.Yes(v) {
			t.Errorf("Yes(%+v) = true", v)
		}
	}
}

// P2.1: Of is the truth value, Int the number.
func TestOfAndInt(t *testing.T) {
	if logic.Of(true) != yes || logic.Of(false) != no {
		t.Errorf("Of = %+v, %+v", logic.Of(true), logic.Of(false))
	}
	for _, n := range edges() {
		if got := logic.Int(n); got != number(n) {
			t.Errorf("Int(%d) = %+v", n, got)
		}
	}
}

// P2.1: Not of each truth value.
func TestNot(t *testing.T) {
	not := map[api.Value]api.Value{yes: no, no: yes, null: null}
	for v, is := range truths() {
		checkOne(t, "Not", logic.Not, v, not[is], api.OK)
	}
	for _, v := range nonTruths {
		checkOne(t, "Not", logic.Not, v, null, api.ErrType)
	}
}

// P2.1, P2.5: And and Or of each truth value with each.
func TestAndOr(t *testing.T) {
	and := map[[2]api.Value]api.Value{
		{no, no}: no, {no, null}: no, {no, yes}: no,
		{null, no}: no, {null, null}: null, {null, yes}: null,
		{yes, no}: no, {yes, null}: null, {yes, yes}: yes,
	}
	or := map[[2]api.Value]api.Value{
		{no, no}: no, {no, null}: null, {no, yes}: yes,
		{null, no}: null, {null, null}: null, {null, yes}: yes,
		{yes, no}: yes, {yes, null}: yes, {yes, yes}: yes,
	}
	for a, isA := range truths() {
		for b, isB := range truths() {
			checkTwo(t, "And", logic.And, a, b, and[[2]api.Value{isA, isB}], api.OK)
			checkTwo(t, "Or", logic.Or, a, b, or[[2]api.Value{isA, isB}], api.OK)
		}
	}
}

// P2.1: And and Or refuse what is not a truth value on either side, even beside one that decides, or beside NULL.
func TestAndOrOfWrongValues(t *testing.T) {
	for name, f := range map[string]binary{"And": logic.And, "Or": logic.Or} {
		for _, wrong := range nonTruths {
			for v := range truths() {
				checkTwo(t, name, f, v, wrong, null, api.ErrType)
				checkTwo(t, name, f, wrong, v, null, api.ErrType)
			}
			checkTwo(t, name, f, wrong, wrong, null, api.ErrType)
		}
	}
}

// inRange is a number if that is within int64, otherwise ErrRange.
func inRange(n *big.Int) (api.Value, api.Errno) {
	if !n.IsInt64() {
		return null, api.ErrRange
	}
	return number(n.Int64()), api.OK
}

// P2.1: the numbers are those of numbers without a bound, as far as they are within int64.
func TestNumbers(t *testing.T) {
	for _, a := range edges() {
		x := big.NewInt(a)
		want, e := inRange(new(big.Int).Neg(x))
		checkOne(t, "Neg", logic.Neg, number(a), want, e)
		for _, b := range edges() {
			y := big.NewInt(b)
			want, e = inRange(new(big.Int).Add(x, y))
			checkTwo(t, "Add", logic.Add, number(a), number(b), want, e)
			want, e = inRange(new(big.Int).Sub(x, y))
			checkTwo(t, "Sub", logic.Sub, number(a), number(b), want, e)
			want, e = inRange(new(big.Int).Mul(x, y))
			checkTwo(t, "Mul", logic.Mul, number(a), number(b), want, e)
		}
	}
}

// P2.1: results at the ends of int64, and just outside.
func TestNumbersAtTheEnds(t *testing.T) {
	checkOne(t, "Neg", logic.Neg, number(greatest), number(-greatest), api.OK)
	checkOne(t, "Neg", logic.Neg, number(least+1), number(greatest), api.OK)
	checkOne(t, "Neg", logic.Neg, number(least), null, api.ErrRange)
	checkOne(t, "Neg", logic.Neg, number(0), number(0), api.OK)
	for _, x := range []struct {
		name    string
		f       binary
		a, b, n int64
		e       api.Errno
	}{
		{"Add", logic.Add, greatest, 0, greatest, api.OK},
		{"Add", logic.Add, greatest - 1, 1, greatest, api.OK},
		{"Add", logic.Add, greatest, 1, 0, api.ErrRange},
		{"Add", logic.Add, greatest, greatest, 0, api.ErrRange},
		{"Add", logic.Add, least, 0, least, api.OK},
		{"Add", logic.Add, least + 1, -1, least, api.OK},
		{"Add", logic.Add, least, -1, 0, api.ErrRange},
		{"Add", logic.Add, least, least, 0, api.ErrRange},
		{"Add", logic.Add, least, greatest, -1, api.OK},
		{"Sub", logic.Sub, least, 1, 0, api.ErrRange},
		{"Sub", logic.Sub, least + 1, 1, least, api.OK},
		{"Sub", logic.Sub, least, least, 0, api.OK},
		{"Sub", logic.Sub, greatest, -1, 0, api.ErrRange},
		{"Sub", logic.Sub, greatest, greatest, 0, api.OK},
		{"Sub", logic.Sub, 0, least, 0, api.ErrRange},
		{"Sub", logic.Sub, -1, least, greatest, api.OK},
		{"Sub", logic.Sub, least, greatest, 0, api.ErrRange},
		{"Mul", logic.Mul, least, 1, least, api.OK},
		{"Mul", logic.Mul, least, -1, 0, api.ErrRange},
		{"Mul", logic.Mul, -1, least, 0, api.ErrRange},
		{"Mul", logic.Mul, least, 0, 0, api.OK},
		{"Mul", logic.Mul, 0, least, 0, api.OK},
		{"Mul", logic.Mul, least, least, 0, api.ErrRange},
		{"Mul", logic.Mul, greatest, -1, -greatest, api.OK},
		{"Mul", logic.Mul, greatest, greatest, 0, api.ErrRange},
		{"Mul", logic.Mul, greatest, least, 0, api.ErrRange},
		{"Mul", logic.Mul, least / 2, 2, least, api.OK},
		{"Mul", logic.Mul, least / 2, -2, 0, api.ErrRange},
		{"Mul", logic.Mul, 1 << 32, 1 << 31, 0, api.ErrRange},
		{"Mul", logic.Mul, 1 << 32, -1 << 31, least, api.OK},
		{"Mul", logic.Mul, 1 << 32, 1 << 32, 0, api.ErrRange},
		{"Mul", logic.Mul, 3037000500, 3037000500, 0, api.ErrRange},
		{"Mul", logic.Mul, 3037000499, 3037000499, 3037000499 * 3037000499, api.OK},
	} {
		want := null
		if x.e == api.OK {
			want = number(x.n)
		}
		checkTwo(t, x.name, x.f, number(x.a), number(x.b), want, x.e)
	}
}

// calculations are the operations on two numbers.
func calculations() map[string]binary {
	return map[string]binary{"Add": logic.Add, "Sub": logic.Sub, "Mul": logic.Mul}
}

// P2.1, P2.5: with NULL the result is NULL, whatever the number is.
func TestNumbersWithNull(t *testing.T) {
	for _, none := range nulls {
		checkOne(t, "Neg", logic.Neg, none, null, api.OK)
		for name, f := range calculations() {
			for _, n := range edges() {
				checkTwo(t, name, f, none, number(n), null, api.OK)
				checkTwo(t, name, f, number(n), none, null, api.OK)
			}
			for _, none2 := range nulls {
				checkTwo(t, name, f, none, none2, null, api.OK)
			}
		}
	}
}

// P2.1: what is neither a number nor NULL is refused on either side, also beside NULL.
func TestNumbersOfWrongValues(t *testing.T) {
	for _, wrong := range nonNumbers {
		checkOne(t, "Neg", logic.Neg, wrong, null, api.ErrType)
		for name, f := range calculations() {
			for _, v := range []api.Value{null, {T: "a"}, number(0), number(1), number(least), number(greatest), wrong} {
				checkTwo(t, name, f, v, wrong, null, api.ErrType)
				checkTwo(t, name, f, wrong, v, null, api.ErrType)
			}
		}
	}
}

// P2.1: of a number that is not valid only N counts, and the result is a valid one.
func TestNumbersOfInvalidNumbers(t *testing.T) {
	odd := api.Value{Kind: api.Int, N: 6, Hi: 9, T: "6"}
	checkOne(t, "Neg", logic.Neg, odd, number(-6), api.OK)
	checkTwo(t, "Add", logic.Add, odd, odd, number(12), api.OK)
	checkTwo(t, "Sub", logic.Sub, number(1), odd, number(-5), api.OK)
	checkTwo(t, "Mul", logic.Mul, odd, number(7), number(42), api.OK)
}

// ordered are lists of values of one Kind, each before the next one; within a group all are the same.
func ordered() [][][]api.Value {
	longest := strings.Repeat("x", api.MaxText)
	return [][][]api.Value{
		{
			{number(least)}, {number(least + 1)}, {number(-10)}, {number(-9)}, {number(-1)},
			{number(0), {Kind: api.Int, Hi: 5}, {Kind: api.Int, T: "z"}},
			{number(1)}, {number(9)}, {number(10)}, {number(greatest - 1)}, {number(greatest), {Kind: api.Int, N: greatest, Hi: -1, T: "a"}},
		},
		{nos, yeses},
		{
			{text(""), {Kind: api.Text, N: 8, Hi: 9}},
			{text("\x00")}, {text("\x00\x00")}, {text("10")}, {text("9")}, {text("Z")},
			{text("a"), {Kind: api.Text, N: -1, T: "a"}, {Kind: api.Text, Hi: 1, T: "a"}},
			{text("aa")}, {text("ab")}, {text("b")},
			{text(longest[1:])}, {text(longest)}, {text(longest + "x")},
			{text("z")}, {text("\x7f")}, {text("\x80")}, {text("é")}, {text("\xff")}, {text("\xff\x00")},
		},
		{
			{span(least, least)}, {span(least, least+1)}, {span(least, greatest)},
			{span(-5, -9)}, {span(-5, -1)}, {span(-5, 0)},
			{api.Value{Kind: api.Span}}, {span(0, 1)},
			{span(1, -100)}, {span(1, 1)}, {span(1, 2)}, {span(1, 3), {Kind: api.Span, N: 1, Hi: 3, T: "a"}}, {span(1, 4)}, {span(1, 9)}, {span(1, 10)},
			{span(2, least)}, {span(2, 3)}, {span(greatest, least)}, {span(greatest, greatest)},
		},
		{
			{other(api.Span+1, least)}, {other(api.Span+1, -1)},
			{other(api.Span+1, 0), {Kind: api.Span + 1, Hi: 1}, {Kind: api.Span + 1, T: "a"}},
			{other(api.Span+1, 1)}, {other(api.Span+1, greatest)},
		},
		{
			{other(math.MaxUint8, -2)}, {other(math.MaxUint8, 2), {Kind: math.MaxUint8, N: 2, Hi: 8, T: "b"}}, {other(math.MaxUint8, 3)},
		},
	}
}

// P2.1, P2.4: Equal and Less of values of one Kind.
func TestEqualLess(t *testing.T) {
	for _, groups := range ordered() {
		for i, group := range groups {
			for j, further := range groups {
				for _, a := range group {
					for _, b := range further {
						checkTwo(t, "Equal", logic.Equal, a, b, truth(i == j), api.OK)
						checkTwo(t, "Less", logic.Less, a, b, truth(i < j), api.OK)
					}
				}
			}
		}
	}
}

// sorts are the values of each Kind in a list of their own, those that are not valid among them.
func sorts() [][]api.Value {
	var lists [][]api.Value
	for _, groups := range ordered() {
		var list []api.Value
		for _, group := range groups {
			list = append(list, group...)
		}
		lists = append(lists, list)
	}
	return lists
}

// P2.1: Equal and Less refuse values of two Kinds.
func TestEqualLessOfTwoKinds(t *testing.T) {
	lists := sorts()
	for i, list := range lists {
		for j, further := range lists {
			for _, a := range list {
				for _, b := range further {
					if i != j {
						checkTwo(t, "Equal", logic.Equal, a, b, null, api.ErrType)
						checkTwo(t, "Less", logic.Less, a, b, null, api.ErrType)
					}
				}
			}
		}
	}
}

// P2.1, P2.5: Equal and Less with NULL are NULL, whatever the Kind of the other one is.
func TestEqualLessWithNull(t *testing.T) {
	for name, f := range map[string]binary{"Equal": logic.Equal, "Less": logic.Less} {
		for _, none := range nulls {
			for _, list := range append(sorts(), nulls) {
				for _, v := range list {
					checkTwo(t, name, f, none, v, null, api.OK)
					checkTwo(t, name, f, v, none, null, api.OK)
				}
			}
		}
	}
}

// P2.1, P2.5: IsNull is yes for NULL alone, and never NULL.
func TestIsNull(t *testing.T) {
	for _, v := range nulls {
		check(t, "IsNull of NULL", logic.IsNull(v), api.OK, yes, api.OK)
	}
	for _, list := range sorts() {
		for _, v := range list {
			if got := logic.IsNull(v); got != no {
				t.Errorf("IsNull(%+v) = %+v", v, got)
			}
		}
	}
}

// must is a result, which may not be an error.
func must(t *testing.T) func(v api.Value, e api.Errno) api.Value {
	return func(v api.Value, e api.Errno) api.Value {
		t.Helper()
		if e != api.OK {
			t.Fatalf("error %d", e)
		}
		return v
	}
}

// P2.2: the laws of Not, And and Or.
func TestLaws(t *testing.T) {
	all, ok := []api.Value{no, yes, null}, must(t)
	for _, a := range all {
		if got := ok(logic.Not(ok(logic.Not(a)))); got != a {
			t.Errorf("Not(Not(%+v)) = %+v", a, got)
		}
		for _, b := range all {
			for name, f := range map[string]binary{"And": logic.And, "Or": logic.Or} {
				if x, y := ok(f(a, b)), ok(f(b, a)); x != y {
					t.Errorf("%s(%+v, %+v) = %+v, the other way %+v", name, a, b, x, y)
				}
				for _, c := range all {
					if x, y := ok(f(a, ok(f(b, c)))), ok(f(ok(f(a, b)), c)); x != y {
						t.Errorf("%s of %+v, %+v, %+v: %+v or %+v", name, a, b, c, x, y)
					}
				}
			}
			left, right := ok(logic.Not(ok(logic.And(a, b)))), ok(logic.Or(ok(logic.Not(a)), ok(logic.Not(b))))
			if left != right {
				t.Errorf("Not of And of %+v and %+v is %+v, Or of the Nots %+v", a, b, left, right)
			}
		}
	}
}

// P2.3: the laws of the numbers, where neither side is an error.
func TestLawsOfNumbers(t *testing.T) {
	same := func(law string, a, b, x api.Value, e api.Errno, y api.Value, f api.Errno) {
		if e == api.OK && f == api.OK && x != y {
			t.Errorf("%s for %+v, %+v: %+v or %+v", law, a, b, x, y)
		}
	}
	for _, n := range edges() {
		for _, m := range edges() {
			a, b := number(n), number(m)
			for name, f := range map[string]binary{"Add": logic.Add, "Mul": logic.Mul} {
				x, e := f(a, b)
				y, g := f(b, a)
				same(name, a, b, x, e, y, g)
			}
			difference, e := logic.Sub(a, b)
			if negative, f := logic.Neg(b); f == api.OK {
				sum, g := logic.Add(a, negative)
				same("Sub is Add of Neg", a, b, difference, e, sum, g)
			}
			if e == api.OK {
				negative, f := logic.Neg(difference)
				exchanged, g := logic.Sub(b, a)
				same("Neg of Sub", a, b, negative, f, exchanged, g)
			}
			if sum, e := logic.Add(a, b); e == api.OK {
				x, f := logic.Sub(sum, a)
				check(t, "the sum less the first one", x, f, b, api.OK)
				y, g := logic.Sub(sum, b)
				check(t, "the sum less the second one", y, g, a, api.OK)
			}
		}
	}
}

// P2.4: exactly one of Less, Less exchanged and Equal is yes; what is less than something less than a value is less than it.
func TestOrder(t *testing.T) {
	ok := must(t)
	less := func(a, b api.Value) bool { return logic.Yes(ok(logic.Less(a, b))) }
	for _, list := range sorts() {
		for _, a := range list {
			for _, b := range list {
				count := 0
				for _, v := range []api.Value{ok(logic.Less(a, b)), ok(logic.Less(b, a)), ok(logic.Equal(a, b))} {
					if logic.Yes(v) {
						count++
					}
				}
				if count != 1 {
					t.Errorf("%+v, %+v: %d of Less, Less exchanged and Equal", a, b, count)
				}
				for _, c := range list {
					if less(a, b) && less(b, c) && !less(a, c) {
						t.Errorf("%+v, %+v, %+v: not in one order", a, b, c)
					}
				}
			}
		}
	}
}

// P2.5: NULL makes every result NULL, except for IsNull, for And with no and for Or with yes.
func TestUnknown(t *testing.T) {
	for name, f := range map[string]unary{"Not": logic.Not, "Neg": logic.Neg} {
		checkOne(t, name, f, null, null, api.OK)
	}
	for name, f := range map[string]binary{"And": logic.And, "Or": logic.Or, "Add": logic.Add, "Sub": logic.Sub, "Mul": logic.Mul, "Equal": logic.Equal, "Less": logic.Less} {
		checkTwo(t, name, f, null, null, null, api.OK)
	}
	checkTwo(t, "And", logic.And, null, yes, null, api.OK)
	checkTwo(t, "And", logic.And, no, null, no, api.OK)
	checkTwo(t, "Or", logic.Or, yes, null, yes, api.OK)
	checkTwo(t, "Or", logic.Or, null, no, null, api.OK)
	check(t, "IsNull(NULL)", logic.IsNull(null), api.OK, yes, api.OK)
}

// The examples of the chapter.
func TestExamples(t *testing.T) {
	checkTwo(t, "And", logic.And, no, null, no, api.OK)
	checkTwo(t, "Or", logic.Or, null, no, null, api.OK)
	checkTwo(t, "Add", logic.Add, number(9223372036854775807), number(1), null, api.ErrRange)
	checkTwo(t, "Mul", logic.Mul, null, number(5), null, api.OK)
	checkTwo(t, "Equal", logic.Equal, number(1), text("1"), null, api.ErrType)
	checkTwo(t, "Less", logic.Less, span(1, 3), span(1, 4), yes, api.OK)
}
