package span_test

import (
	"math"
	"slices"
	"testing"

	"covenant/api"
	"covenant/span"
)

const (
	least    = math.MinInt64
	greatest = math.MaxInt64
)

func of(n, hi int64) api.Value { return api.Value{Kind: api.Span, N: n, Hi: hi} }

// list makes spans of their bounds, two by two.
func list(bounds ...int64) []api.Value {
	var l []api.Value
	for i := 0; i < len(bounds); i += 2 {
		l = append(l, of(bounds[i], bounds[i+1]))
	}
	return l
}

var (
	none = api.Value{}

	valid = list(0, 1, 0, 2, -3, 3, 5, 9, least, least+1, least, greatest, greatest-1, greatest, 0, greatest, least, 0)

	// wrong are values that are no valid spans.
	wrong = []api.Value{
		{}, {N: 1, Hi: 4}, {Kind: api.Int, N: 1}, {Kind: api.Int, N: 1, Hi: 4}, {Kind: api.Bool, N: 1}, {Kind: api.Bool, N: 0, Hi: 4},
		{Kind: api.Text, T: "a"}, {Kind: api.Text, N: 1, Hi: 4}, {Kind: api.Span + 1, N: 1, Hi: 4}, {Kind: math.MaxUint8, N: 1, Hi: 4},
		{Kind: api.Span}, of(1, 1), of(4, 3), of(4, -4), of(greatest, least), of(greatest, greatest), of(least, least), of(least+1, least),
		{Kind: api.Span, N: 1, Hi: 4, T: "a"}, {Kind: api.Span, N: 1, Hi: 4, T: "\x00"},
	}
)

func checkCommon(t *testing.T, a, b, want api.Value, is bool) {
	t.Helper()
	if got, meet := span.Common(a, b); got != want || meet != is {
		t.Errorf("Common(%+v, %+v) = %+v, %v, not %+v, %v", a, b, got, meet, want, is)
	}
	if meet := span.Meets(a, b); meet != is {
		t.Errorf("Meets(%+v, %+v) = %v", a, b, meet)
	}
}

func checkFirst(t *testing.T, l []api.Value, first, second int, is bool) {
	t.Helper()
	if a, b, meet := span.First(l); a != first || b != second || meet != is {
		t.Errorf("First(%+v) = %d, %d, %v, not %d, %d, %v", l, a, b, meet, first, second, is)
	}
}

func checkFree(t *testing.T, within api.Value, l, want []api.Value) {
	t.Helper()
	if got, e := span.Free(within, l); !slices.Equal(got, want) || e != api.OK {
		t.Errorf("Free(%+v, %+v) = %+v, %d, not %+v", within, l, got, e, want)
	}
}

// P4.1: Of is the span, or ErrForm if n is not less than hi.
func TestOf(t *testing.T) {
	bounds := []int64{least, least + 1, -2, -1, 0, 1, 2, greatest - 1, greatest}
	for _, n := range bounds {
		for _, hi := range bounds {
			want, wantErr := of(n, hi), api.OK
			if n >= hi {
				want, wantErr = none, api.ErrForm
			}
			if got, e := span.Of(n, hi); got != want || e != wantErr {
				t.Errorf("Of(%d, %d) = %+v, %d", n, hi, got, e)
			}
		}
	}
}

// P4.1: May is true for valid spans alone.
func TestMay(t *testing.T) {
	for _, v := range valid {
		if !span.May(v) {
			t.Errorf("May(%+v) is false", v)
		}
	}
	for _, v := range wrong {
		if span.May(v) {
			t.Errorf("May(%+v) is true", v)
		}
	}
}

// P4.1: Has is true from N on, below Hi.
func TestHas(t *testing.T) {
	for _, x := range []struct {
		v    api.Value
		has  []int64
		hasn []int64
	}{
		{of(3, 4), []int64{3}, []int64{least, -3, 0, 2, 4, 5, greatest}},
		{of(-2, 2), []int64{-2, -1, 0, 1}, []int64{least, -3, 2, 3, greatest}},
		{of(least, least+1), []int64{least}, []int64{least + 1, 0, greatest}},
		{of(greatest-1, greatest), []int64{greatest - 1}, []int64{least, 0, greatest - 2, greatest}},
		{of(least, greatest), []int64{least, -1, 0, 1, greatest - 1}, []int64{greatest}},
	} {
		for _, n := range x.has {
			if !span.Has(x.v, n) {
				t.Errorf("Has(%+v, %d) is false", x.v, n)
			}
		}
		for _, n := range x.hasn {
			if span.Has(x.v, n) {
				t.Errorf("Has(%+v, %d) is true", x.v, n)
			}
		}
	}
	for _, v := range wrong {
		for _, n := range []int64{least, -1, 0, 1, 2, 3, 4, greatest} {
			if span.Has(v, n) {
				t.Errorf("Has(%+v, %d) is true", v, n)
			}
		}
	}
}

// P4.1: two meet if some number is in both, and have in common the span of these.
func TestMeetsAndCommon(t *testing.T) {
	for _, x := range []struct{ a, b, want api.Value }{
		{of(1, 4), of(3, 5), of(3, 4)}, {of(1, 9), of(4, 6), of(4, 6)}, {of(1, 9), of(1, 4), of(1, 4)}, {of(1, 9), of(4, 9), of(4, 9)},
		{of(1, 4), of(1, 4), of(1, 4)}, {of(3, 4), of(3, 4), of(3, 4)}, {of(3, 4), of(0, 9), of(3, 4)}, {of(3, 4), of(3, 9), of(3, 4)}, {of(3, 4), of(0, 4), of(3, 4)},
		{of(-5, 1), of(0, 5), of(0, 1)}, {of(-5, -1), of(-2, 5), of(-2, -1)},
		{of(least, greatest), of(2, 3), of(2, 3)}, {of(least, 1), of(0, greatest), of(0, 1)}, {of(least, greatest), of(least, greatest), of(least, greatest)},
		{of(least, least+1), of(least, greatest), of(least, least+1)}, {of(greatest-1, greatest), of(least, greatest), of(greatest-1, greatest)},
	} {
		checkCommon(t, x.a, x.b, x.want, true)
		checkCommon(t, x.b, x.a, x.want, true)
	}
	for _, x := range [][2]api.Value{
		{of(1, 3), of(3, 5)}, {of(1, 3), of(4, 5)}, {of(3, 4), of(4, 5)}, {of(-5, 0), of(0, 5)}, {of(-5, -3), of(3, 5)},
		{of(least, 0), of(0, greatest)}, {of(least, least+1), of(least+1, greatest)}, {of(greatest-1, greatest), of(least, greatest-1)}, {of(least, least+1), of(greatest-1, greatest)},
	} {
		checkCommon(t, x[0], x[1], none, false)
		checkCommon(t, x[1], x[0], none, false)
	}
}

// P4.1: what is not a valid span meets nothing, not even itself.
func TestCommonOfWhatIsNoSpan(t *testing.T) {
	for _, v := range wrong {
		for _, w := range slices.Concat(wrong, valid) {
			checkCommon(t, v, w, none, false)
			checkCommon(t, w, v, none, false)
		}
	}
}

// P4.2: First is the least second one that meets one before it, with the least first one.
func TestFirst(t *testing.T) {
	for _, x := range []struct {
		l             []api.Value
		first, second int
		is            bool
	}{
		{nil, 0, 0, false}, {[]api.Value{}, 0, 0, false}, {list(1, 4), 0, 0, false},
		{list(1, 3, 3, 5, 7, 9, -1, 1, 6, 7), 0, 0, false}, {list(5, 6, 4, 5, 3, 4, 2, 3), 0, 0, false},
		{list(least, 0, 0, greatest), 0, 0, false}, {list(greatest-1, greatest, least, least+1, 0, 1), 0, 0, false},
		{list(1, 4, 3, 5), 0, 1, true}, {list(3, 5, 1, 4, 6, 7), 0, 1, true}, {list(1, 4, 3, 5, 1, 9), 0, 1, true}, {list(1, 4, 1, 4), 0, 1, true},
		{list(1, 2, 3, 4, 5, 7, 6, 9), 2, 3, true}, {list(1, 2, 3, 4, 5, 6, 5, 6), 2, 3, true},
		{list(1, 2, 3, 4, 5, 6, 1, 6), 0, 3, true}, {list(1, 2, 3, 4, 5, 6, 3, 6), 1, 3, true}, {list(5, 6, 3, 4, 1, 2, 1, 9), 0, 3, true},
		// The least second one goes ahead of the least first one.
		{list(1, 2, 5, 7, 6, 8, 1, 2), 1, 2, true}, {list(1, 2, 8, 9, 5, 7, 6, 7, 1, 9), 2, 3, true},
		{list(1, 2, 3, 4, 5, 6, 3, 6, 1, 2), 1, 3, true},
		{list(least, greatest, greatest-1, greatest), 0, 1, true}, {list(0, 1, least, least+1, least, 0), 1, 2, true},
	} {
		checkFirst(t, x.l, x.first, x.second, x.is)
	}
}

// P4.2: what is not a valid span counts as a position, and meets nothing.
func TestFirstOfWhatIsNoSpan(t *testing.T) {
	for _, v := range wrong {
		checkFirst(t, []api.Value{v}, 0, 0, false)
		checkFirst(t, []api.Value{v, v, v}, 0, 0, false)
		checkFirst(t, []api.Value{v, of(0, 9), v}, 0, 0, false)
		checkFirst(t, []api.Value{v, of(0, 4), v, of(4, 9), v, of(3, 5)}, 1, 5, true)
		checkFirst(t, []api.Value{v, of(0, 9), v, of(1, 4), v}, 1, 3, true)
		checkFirst(t, []api.Value{of(0, 9), v, of(1, 4)}, 0, 2, true)
	}
}

// P4.2: Free is what the others leave, as long as possible each, in increasing order.
func TestFree(t *testing.T) {
	within := of(0, 10)
	for _, x := range []struct{ l, want []api.Value }{
		{nil, list(0, 10)}, {[]api.Value{}, list(0, 10)},
		{list(0, 10), nil}, {list(-5, 15), nil}, {list(0, 5, 5, 10), nil}, {list(5, 10, 0, 5), nil}, {list(3, 12, -2, 4), nil}, {list(least, greatest), nil},
		{list(2, 4, 3, 7), list(0, 2, 7, 10)}, {list(3, 7, 2, 4), list(0, 2, 7, 10)},
		{list(2, 4, 4, 7), list(0, 2, 7, 10)}, {list(4, 7, 2, 4), list(0, 2, 7, 10)}, {list(2, 4, 2, 4), list(0, 2, 4, 10)},
		{list(2, 8, 3, 4), list(0, 2, 8, 10)}, {list(3, 4, 2, 8), list(0, 2, 8, 10)}, {list(2, 8, 3, 4, 6, 7), list(0, 2, 8, 10)}, {list(2, 3, 2, 6), list(0, 2, 6, 10)}, {list(2, 6, 2, 3), list(0, 2, 6, 10)},
		{list(2, 4, 6, 8), list(0, 2, 4, 6, 8, 10)}, {list(6, 8, 2, 4), list(0, 2, 4, 6, 8, 10)}, {list(3, 4, 4, 5, 6, 7), list(0, 3, 5, 6, 7, 10)},
		{list(0, 4), list(4, 10)}, {list(-3, 4), list(4, 10)}, {list(6, 10), list(0, 6)}, {list(6, 13), list(0, 6)}, {list(-3, 4, 6, 13), list(4, 6)},
		{list(-3, 0), list(0, 10)}, {list(10, 13), list(0, 10)}, {list(-5, -3, 12, 15, -9, 0, 10, 11), list(0, 10)}, {list(-5, -3, 2, 4, 12, 15), list(0, 2, 4, 10)},
		{list(0, 1), list(1, 10)}, {list(9, 10), list(0, 9)}, {list(1, 10), list(0, 1)}, {list(0, 9), list(9, 10)}, {list(least, 0, 10, greatest), list(0, 10)}, {list(least, 1, 9, greatest), list(1, 9)},
	} {
		checkFree(t, within, x.l, x.want)
	}
	checkFree(t, of(5, 6), list(5, 6), nil)
	checkFree(t, of(5, 6), list(4, 5, 6, 7), list(5, 6))
	checkFree(t, of(least, greatest), nil, list(least, greatest))
	checkFree(t, of(least, greatest), list(least, greatest), nil)
	checkFree(t, of(least, greatest), list(0, 1), list(least, 0, 1, greatest))
	checkFree(t, of(least, greatest), list(greatest-1, greatest, least, least+1), list(least+1, greatest-1))
	checkFree(t, of(greatest-1, greatest), list(least, greatest-1), list(greatest-1, greatest))
	checkFree(t, of(least, least+1), list(least+1, greatest), list(least, least+1))
}

// P4.2: Free refuses what is not a valid span, wherever it stands.
func TestFreeOfWhatIsNoSpan(t *testing.T) {
	refused := func(within api.Value, l ...api.Value) {
		if got, e := span.Free(within, l); got != nil || e != api.ErrForm {
			t.Errorf("Free(%+v, %+v) = %+v, %d", within, l, got, e)
		}
	}
	for _, v := range wrong {
		refused(v)
		refused(v, of(1, 2))
		refused(v, v)
		refused(of(0, 9), v)
		refused(of(0, 9), v, of(1, 2), of(3, 4))
		refused(of(0, 9), of(1, 2), v, of(3, 4))
		refused(of(0, 9), of(1, 2), of(3, 4), v)
		refused(of(0, 9), of(least, greatest), v)
	}
}

// P4.2: a list that is handed in stays as it was, and an answer is new each time.
func TestListsStay(t *testing.T) {
	l := append(list(8, 9, 2, 4, 6, 12, 3, 5, -4, 1), wrong...)
	was := slices.Clone(l)
	for range 2 {
		checkFirst(t, l, 0, 2, true)
		checkFree(t, of(0, 20), l[:5], list(1, 2, 5, 6, 12, 20))
		free, _ := span.Free(of(0, 20), l[:5])
		clear(free)
		if !slices.Equal(l, was) {
			t.Fatalf("the list became %+v", l)
		}
	}
}

// The chapter's examples.
func TestExamples(t *testing.T) {
	checkCommon(t, of(1, 3), of(3, 5), none, false)
	checkCommon(t, of(1, 4), of(3, 5), of(3, 4), true)
	if v, e := span.Of(5, 5); v != none || e != api.ErrForm {
		t.Errorf("Of(5, 5) = %+v, %d", v, e)
	}
	checkFree(t, of(0, 10), list(2, 4, 3, 7), list(0, 2, 7, 10))
	checkFirst(t, list(1, 2, 5, 9, 8, 10), 1, 2, true)
}
