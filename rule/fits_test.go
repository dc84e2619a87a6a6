package rule_test

import (
	"math"
	"slices"
	"testing"

	"covenant/api"
	"covenant/rule"
)

// given is what Fits is given.
type given struct {
	r  api.Rule
	t  api.Table
	to api.Rule
	of api.Table
}

func (g given) fits() api.Errno { return rule.Fits(g.r, g.t, g.to, g.of) }

// fitting is a rule of a Kind that fits.
func fitting(kind uint8) given {
	g := given{
		r: api.Rule{Kind: kind, Name: "r", Table: "guest", Cols: columns(0), Valid: true},
		t: table("guest", api.Int, api.Bool, api.Text, api.Span, api.Int, api.Text),
	}
	switch kind {
	case api.Check:
		g.r.Cols = nil
		g.r.Is = of(api.Less, lit(number(0)), col(0))
	case api.Foreign:
		g.r.To = "u"
		g.to = api.Rule{Kind: api.Unique, Name: "u", Table: "room", Cols: columns(1), Valid: true}
		g.of = table("room", api.Text, api.Int, api.Span, api.Bool, api.Text)
	case api.Apart:
		g.r.Cols = columns(0, 3)
	}
	return g
}

// check checks what Fits says of what fits, with something changed.
func check(t *testing.T, kind uint8, want api.Errno, what string, set func(g *given)) {
	t.Helper()
	g := fitting(kind)
	set(&g)
	if got := g.fits(); got != want {
		t.Errorf("Kind %d, %s: Fits(%+v, %+v, %+v, %+v) = %d, want %d", kind, what, g.r, g.t, g.to, g.of, got, want)
	}
}

func checkCols(t *testing.T, kind uint8, want api.Errno, cols ...int) {
	t.Helper()
	check(t, kind, want, "its columns", func(g *given) { g.r.Cols = cols })
}

// wrong are columns that a table of six columns does not have, or has less often.
var wrong = [][]int{
	nil, {}, {-1}, {6}, {7}, {math.MaxInt}, {math.MinInt}, {1 << 32}, {-1 << 32},
	{0, 0}, {3, 3}, {5, 5}, {-1, -1}, {0, 6}, {6, 0}, {-1, 3}, {3, -1}, {0, 1, 0}, {0, 3, 3}, {3, 0, 3}, {0, 1, 6}, {0, 6, 3}, {-1, 0, 3},
	{0, 1, 2, 3, 4, 5, 6}, {0, 1, 2, 3, 4, 5, 0}, {0, 1, 2, 4, 5, 3, 3}, {5, 4, 3, 2, 1, 0, -1},
}

// P8.1: a rule of each Kind fits.
func TestFits(t *testing.T) {
	for _, kind := range kinds {
		check(t, kind, api.OK, "as it is", func(g *given) {})
	}
}

// P8.1: what is no Kind does not fit, whatever else there is.
func TestFitsOfKindsThatAreNone(t *testing.T) {
	for kind := range 256 {
		if slices.Contains(kinds, uint8(kind)) {
			continue
		}
		for _, as := range kinds {
			check(t, as, api.ErrForm, "no Kind", func(g *given) { g.r.Kind = uint8(kind) })
			check(t, as, api.ErrForm, "no Kind, and not Valid", func(g *given) { g.r.Kind, g.r.Valid = uint8(kind), false })
		}
	}
	if got := (given{}).fits(); got != api.ErrForm {
		t.Errorf("Fits of nothing = %d", got)
	}
}

// P8.1: its Name is a name.
func TestFitsOfNames(t *testing.T) {
	for _, kind := range kinds {
		for _, s := range names {
			check(t, kind, api.OK, "a name", func(g *given) { g.r.Name = s })
		}
		for _, s := range noNames {
			check(t, kind, api.ErrForm, "no name", func(g *given) { g.r.Name = s })
		}
		check(t, kind, api.OK, "its table's Name", func(g *given) { g.r.Name = "guest" })
	}
	check(t, api.Foreign, api.OK, "the other rule's Name", func(g *given) { g.r.Name = "u" })
}

// P8.1: its Table is the table's Name.
func TestFitsOfTables(t *testing.T) {
	for _, kind := range kinds {
		for _, s := range []string{"", "gues", "guests", "Guest", "room", "r", "u", "guest "} {
			check(t, kind, api.ErrForm, "another Table", func(g *given) { g.r.Table = s })
			check(t, kind, api.ErrForm, "another table's Name", func(g *given) { g.t.Name = s })
		}
		check(t, kind, api.OK, "both", func(g *given) { g.r.Table, g.t.Name = "other", "other" })
		check(t, kind, api.ErrForm, "a table without columns", func(g *given) { g.t.Cols = nil })
	}
}

// P8.1: a rule of Kind NotNull has one column of the table, of any type.
func TestFitsOfNotNull(t *testing.T) {
	for i := range 6 {
		checkCols(t, api.NotNull, api.OK, i)
		for k := range 6 {
			checkCols(t, api.NotNull, api.ErrForm, i, k)
		}
	}
	checkCols(t, api.NotNull, api.ErrForm, 0, 1, 2)
	checkCols(t, api.NotNull, api.ErrForm, 0, 1, 2, 3, 4, 5)
	for _, cols := range wrong {
		checkCols(t, api.NotNull, api.ErrForm, cols...)
	}
}

// P8.1: a rule of Kind Unique has columns of the table, of any types.
func TestFitsOfUnique(t *testing.T) {
	for i := range 6 {
		checkCols(t, api.Unique, api.OK, i)
		for k := range 6 {
			want := api.OK
			if i == k {
				want = api.ErrForm
			}
			checkCols(t, api.Unique, want, i, k)
		}
	}
	checkCols(t, api.Unique, api.OK, 5, 0, 3)
	checkCols(t, api.Unique, api.OK, 0, 1, 2, 3, 4, 5)
	checkCols(t, api.Unique, api.OK, 5, 4, 3, 2, 1, 0)
	for _, cols := range wrong {
		checkCols(t, api.Unique, api.ErrForm, cols...)
	}
}

// P8.1: a rule of Kind Apart has columns of the table, the last one of them a span; the others may be anything.
func TestFitsOfApart(t *testing.T) {
	for i := range 6 {
		want := api.ErrType
		if i == 3 {
			want = api.OK
		}
		checkCols(t, api.Apart, want, i)
		for k := range 6 {
			if k != i {
				checkCols(t, api.Apart, want, k, i)
			}
		}
	}
	checkCols(t, api.Apart, api.OK, 5, 4, 2, 1, 0, 3)
	checkCols(t, api.Apart, api.ErrType, 5, 4, 3, 2, 1, 0)
	checkCols(t, api.Apart, api.ErrType, 3, 0)
	for _, cols := range wrong {
		checkCols(t, api.Apart, api.ErrForm, cols...)
	}
	for kind := range 256 {
		want := api.ErrType
		if uint8(kind) == api.Span {
			want = api.OK
		}
		check(t, api.Apart, want, "the last column's type", func(g *given) { g.t.Cols[3].Type = uint8(kind) })
		check(t, api.Apart, api.OK, "the first column's type", func(g *given) { g.t.Cols[0].Type = uint8(kind) })
	}
	check(t, api.Apart, api.OK, "two spans", func(g *given) { g.t.Cols[0].Type = api.Span })
}

// P8.1: the expression of a rule of Kind Check is a truth value over the table's columns, of which NULL is one.
func TestFitsOfCheck(t *testing.T) {
	five := lit(number(5))
	for _, x := range []struct {
		is   api.Expr
		want api.Errno
	}{
		{lit(truth(1)), api.OK},
		{lit(truth(0)), api.OK},
		{lit(null), api.OK},
		{col(1), api.OK},
		{of(api.Not, col(1)), api.OK},
		{of(api.Not, lit(null)), api.OK},
		{of(api.IsNull, col(2)), api.OK},
		{of(api.Equal, col(0), col(4)), api.OK},
		{of(api.Equal, col(2), col(5)), api.OK},
		{of(api.Equal, lit(null), col(2)), api.OK},
		{of(api.Neg, lit(null)), api.OK},
		{of(api.Meet, col(3), lit(span(1, 4))), api.OK},
		{of(api.Or, of(api.Less, col(0), five), of(api.Less, of(api.Mul, col(4), five), col(0))), api.OK},

		{five, api.ErrType},
		{lit(text("a")), api.ErrType},
		{lit(span(1, 4)), api.ErrType},
		{col(0), api.ErrType},
		{col(2), api.ErrType},
		{col(3), api.ErrType},
		{of(api.Add, col(0), five), api.ErrType},
		{of(api.Neg, col(0)), api.ErrType},
		{of(api.Not, col(0)), api.ErrType},
		{of(api.Equal, col(0), col(1)), api.ErrType},
		{of(api.Less, col(2), five), api.ErrType},
		{of(api.Meet, col(3), col(0)), api.ErrType},
		{of(api.And, col(1), col(2)), api.ErrType},
		{of(api.And, lit(truth(0)), of(api.Equal, of(api.Add, col(2), five), five)), api.ErrType},
		{of(api.IsNull, of(api.Neg, col(1))), api.ErrType},

		{api.Expr{}, api.ErrForm},
		{of(99), api.ErrForm},
		{of(api.Not), api.ErrForm},
		{of(api.And, col(1)), api.ErrForm},
		{of(api.And, col(1), col(1), col(1)), api.ErrForm},
		{lit(truth(2)), api.ErrForm},
		{lit(span(1, 1)), api.ErrForm},
		{api.Expr{Op: api.Col, N: 1, V: truth(1)}, api.ErrForm},
		{col(-1), api.ErrForm},
		{col(6), api.ErrForm},
		{col(math.MaxInt), api.ErrForm},
		{col(math.MinInt), api.ErrForm},
		{of(api.IsNull, col(6)), api.ErrForm},
		{of(api.Or, col(1), of(api.Equal, five, col(6))), api.ErrForm},
		// Invalid, or of columns that do not exist, and with parts that do not fit.
		{of(api.And, five, col(6)), api.ErrForm},
		{of(api.And, of(api.Equal, five, col(1)), of(api.Not)), api.ErrForm},
		{of(api.Add, of(api.Not, five), api.Expr{}), api.ErrForm},
	} {
		check(t, api.Check, x.want, "its expression", func(g *given) { g.r.Is = x.is })
	}
}

// P8.1: an expression is valid up to MaxDeep and MaxSize.
func TestFitsOfLargeChecks(t *testing.T) {
	deep := col(1)
	for range api.MaxDeep - 1 {
		deep = of(api.Not, deep)
	}
	check(t, api.Check, api.OK, "as deep as may be", func(g *given) { g.r.Is = deep })
	check(t, api.Check, api.ErrForm, "deeper", func(g *given) { g.r.Is = of(api.Not, deep) })
	// Of 1, 3, 7, 15, 31 and 63 nodes.
	wide := col(1)
	for range 5 {
		wide = of(api.And, wide, wide)
	}
	check(t, api.Check, api.OK, "as many nodes as may be", func(g *given) { g.r.Is = of(api.Not, wide) })
	check(t, api.Check, api.ErrForm, "more nodes", func(g *given) { g.r.Is = of(api.Not, of(api.Not, wide)) })
}

// P8.1: only rules of Kind Unique and Foreign may be Late; those of Kind Unique and Apart are Valid.
func TestFitsOfLateAndValid(t *testing.T) {
	for _, kind := range kinds {
		for _, late := range []bool{false, true} {
			for _, valid := range []bool{false, true} {
				want := api.OK
				if late && kind != api.Unique && kind != api.Foreign || !valid && (kind == api.Unique || kind == api.Apart) {
					want = api.ErrForm
				}
				check(t, kind, want, "Late and Valid", func(g *given) { g.r.Late, g.r.Valid = late, valid })
			}
		}
	}
}

// P8.1: a rule of Kind Foreign refers to a rule of Kind Unique of the other table that is not Late, by its name.
func TestFitsOfWhatIsReferredTo(t *testing.T) {
	for _, x := range []struct {
		what string
		want api.Errno
		set  func(g *given)
	}{
		{"another To", api.ErrForm, func(g *given) { g.r.To = "w" }},
		{"no To", api.ErrForm, func(g *given) { g.r.To = "" }},
		{"a longer To", api.ErrForm, func(g *given) { g.r.To = "u_" }},
		{"its table's Name as To", api.ErrForm, func(g *given) { g.r.To = "room" }},
		{"another Name", api.ErrForm, func(g *given) { g.to.Name = "w" }},
		{"no Name", api.ErrForm, func(g *given) { g.to.Name = "" }},
		{"both other ones", api.OK, func(g *given) { g.r.To, g.to.Name = "w", "w" }},
		{"another Table", api.ErrForm, func(g *given) { g.to.Table = "guest" }},
		{"no Table", api.ErrForm, func(g *given) { g.to.Table = "" }},
		{"another table's Name", api.ErrForm, func(g *given) { g.of.Name = "rooms" }},
		{"both tables other ones", api.OK, func(g *given) { g.to.Table, g.of.Name = "rooms", "rooms" }},
		{"Late", api.ErrForm, func(g *given) { g.to.Late = true }},
		{"both Late", api.ErrForm, func(g *given) { g.to.Late, g.r.Late = true, true }},
		{"itself Late", api.OK, func(g *given) { g.r.Late = true }},
		{"not Valid", api.OK, func(g *given) { g.to.Valid = false }},
		{"itself not Valid", api.OK, func(g *given) { g.r.Valid = false }},
		{"nothing", api.ErrForm, func(g *given) { g.to, g.of = api.Rule{}, api.Table{} }},
		{"no rule", api.ErrForm, func(g *given) { g.to = api.Rule{} }},
		{"no table", api.ErrForm, func(g *given) { g.of = api.Table{} }},
		{"no columns", api.ErrForm, func(g *given) { g.of.Cols = nil }},
		{"itself", api.ErrForm, func(g *given) { g.r.To, g.to, g.of = "r", g.r, g.t }},
		{"its own table", api.OK, func(g *given) { g.to.Table, g.to.Cols, g.of = "guest", columns(4), g.t }},
		{"its own column", api.OK, func(g *given) { g.to.Table, g.to.Cols, g.of = "guest", columns(0), g.t }},
		{"other fields of the other rule", api.OK, func(g *given) {
			g.to.Is, g.to.To, g.to.OnDelete, g.to.OnUpdate = lit(null), "w", 99, 99
		}},
	} {
		check(t, api.Foreign, x.want, x.what, x.set)
	}
	for kind := range 256 {
		want := api.ErrForm
		if uint8(kind) == api.Unique {
			want = api.OK
		}
		check(t, api.Foreign, want, "the other rule's Kind", func(g *given) { g.to.Kind = uint8(kind) })
	}
}

// P8.1: a rule of Kind Foreign has as many columns as the one to which it refers, of the same types, one by one.
func TestFitsOfForeignColumns(t *testing.T) {
	for _, x := range []struct {
		cols, to []int
		want     api.Errno
	}{
		{columns(0), columns(1), api.OK},
		{columns(4), columns(1), api.OK},
		{columns(1), columns(3), api.OK},
		{columns(2), columns(0), api.OK},
		{columns(5), columns(4), api.OK},
		{columns(3), columns(2), api.OK},
		{columns(0, 2), columns(1, 0), api.OK},
		{columns(5, 4), columns(0, 1), api.OK},
		{columns(5, 2), columns(0, 4), api.OK},
		{columns(3, 2, 1, 0), columns(2, 4, 3, 1), api.OK},

		{columns(0), columns(0), api.ErrType},
		{columns(1), columns(1), api.ErrType},
		{columns(2), columns(2), api.ErrType},
		{columns(0, 2), columns(0, 1), api.ErrType},
		{columns(0, 4), columns(1, 0), api.ErrType},
		{columns(2, 4), columns(1, 0), api.ErrType},
		{columns(3, 2, 1, 0), columns(2, 4, 1, 3), api.ErrType},
		{columns(3, 2, 0, 1), columns(2, 4, 1, 0), api.ErrType},

		{columns(0), columns(1, 0), api.ErrForm},
		{columns(0, 2), columns(1), api.ErrForm},
		{columns(0, 2, 5), columns(1, 0), api.ErrForm},
		{columns(0, 2), columns(1, 0, 4), api.ErrForm},
		{columns(0), nil, api.ErrForm},
		{columns(0), columns(), api.ErrForm},
		{nil, columns(1), api.ErrForm},
		{nil, nil, api.ErrForm},
		{columns(), columns(), api.ErrForm},
		// Types that are not the same, and not as many.
		{columns(0), columns(0, 4), api.ErrForm},
		{columns(0, 2), columns(0), api.ErrForm},
	} {
		check(t, api.Foreign, x.want, "columns", func(g *given) { g.r.Cols, g.to.Cols = x.cols, x.to })
	}
	for kind := range 256 {
		want := api.ErrType
		if uint8(kind) == api.Int {
			want = api.OK
		}
		check(t, api.Foreign, want, "its column's type", func(g *given) { g.t.Cols[0].Type = uint8(kind) })
		check(t, api.Foreign, want, "the other column's type", func(g *given) { g.of.Cols[1].Type = uint8(kind) })
		check(t, api.Foreign, api.OK, "both types", func(g *given) { g.t.Cols[0].Type, g.of.Cols[1].Type = uint8(kind), uint8(kind) })
	}
}

// P8.1: neither may have columns that its table does not have, nor one twice; there are as many of them here as the other one has.
func TestFitsOfWrongForeignColumns(t *testing.T) {
	for _, cols := range wrong {
		checkCols(t, api.Foreign, api.ErrForm, cols...)
		good := make([]int, len(cols))
		for i := range good {
			good[i] = i
		}
		all := func(g *given) {
			g.t = table("guest", slices.Repeat([]uint8{api.Int}, 6)...)
			g.of = table("room", slices.Repeat([]uint8{api.Int}, 6)...)
		}
		check(t, api.Foreign, api.ErrForm, "its columns", func(g *given) { all(g); g.r.Cols, g.to.Cols = cols, good })
		check(t, api.Foreign, api.ErrForm, "the other one's columns", func(g *given) { all(g); g.r.Cols, g.to.Cols = good, cols })
		check(t, api.Foreign, api.ErrForm, "both", func(g *given) { all(g); g.r.Cols, g.to.Cols = cols, cols })
	}
	// A column that only the other table has.
	check(t, api.Foreign, api.ErrForm, "fewer columns", func(g *given) { g.t.Cols, g.r.Cols = g.t.Cols[:1], columns(1) })
	check(t, api.Foreign, api.ErrForm, "fewer columns there", func(g *given) { g.of.Cols = g.of.Cols[:1] })
}

// P8.1: OnDelete and OnUpdate are from Leave to SetBy, for a rule of Kind Foreign.
func TestFitsOfOnDeleteAndOnUpdate(t *testing.T) {
	for on := range 256 {
		for _, kind := range kinds {
			want := api.OK
			if kind == api.Foreign && on > int(api.SetBy) {
				want = api.ErrForm
			}
			check(t, kind, want, "OnDelete", func(g *given) { g.r.OnDelete = uint8(on) })
			check(t, kind, want, "OnUpdate", func(g *given) { g.r.OnUpdate = uint8(on) })
			check(t, kind, want, "both", func(g *given) { g.r.OnDelete, g.r.OnUpdate = uint8(on), uint8(on) })
		}
	}
}

// P8.1: fields that its Kind does not name are ignored.
func TestFitsOfFieldsThatAreIgnored(t *testing.T) {
	for _, kind := range kinds {
		for _, is := range []api.Expr{lit(number(1)), of(99), col(-1), of(api.Not, col(2)), endless()[2]} {
			if kind != api.Check {
				check(t, kind, api.OK, "Is", func(g *given) { g.r.Is = is })
			}
		}
		if kind == api.Check {
			for _, cols := range append(wrong, columns(0), columns(0, 1)) {
				checkCols(t, kind, api.OK, cols...)
			}
		}
		if kind == api.Foreign {
			continue
		}
		for _, s := range append(noNames, "u", "r", "guest") {
			check(t, kind, api.OK, "To", func(g *given) { g.r.To = s })
		}
		check(t, kind, api.OK, "the other rule", func(g *given) { g.to, g.of = fitting(api.Foreign).to, fitting(api.Foreign).of })
		check(t, kind, api.OK, "another rule, which is wrong", func(g *given) { g.to, g.of = api.Rule{Kind: 99, Cols: columns(-1), Late: true}, api.Table{Name: "A"} })
		check(t, kind, api.OK, "all of them", func(g *given) { g.r.To, g.r.OnDelete, g.r.OnUpdate, g.to.Late = "w", 99, 99, true })
	}
}

// P8.1: what is wrong in two ways: ErrForm before ErrType.
func TestOrderOfErrors(t *testing.T) {
	types := map[uint8]func(g *given){
		api.Check:   func(g *given) { g.r.Is = col(0) },
		api.Foreign: func(g *given) { g.r.Cols = columns(2) },
		api.Apart:   func(g *given) { g.r.Cols = columns(3, 0) },
	}
	forms := []struct {
		what  string
		kinds []uint8
		set   func(g *given)
	}{
		{"its Name", kinds, func(g *given) { g.r.Name = "" }},
		{"its Table", kinds, func(g *given) { g.r.Table = "room" }},
		{"its Kind", kinds, func(g *given) { g.r.Kind = 0 }},
		{"Late", []uint8{api.Check, api.Apart}, func(g *given) { g.r.Late = true }},
		{"not Valid", []uint8{api.Apart}, func(g *given) { g.r.Valid = false }},
		{"a column twice", []uint8{api.Foreign, api.Apart}, func(g *given) { g.r.Cols = append(g.r.Cols, g.r.Cols[0]) }},
		{"a column that does not exist", []uint8{api.Foreign, api.Apart}, func(g *given) { g.r.Cols = slices.Insert(g.r.Cols, 0, 6) }},
		{"an expression that is invalid", []uint8{api.Check}, func(g *given) { g.r.Is = of(api.Add, g.r.Is) }},
		{"an expression of a column that does not exist", []uint8{api.Check}, func(g *given) { g.r.Is = of(api.Add, g.r.Is, col(6)) }},
		{"To", []uint8{api.Foreign}, func(g *given) { g.r.To = "w" }},
		{"the other Kind", []uint8{api.Foreign}, func(g *given) { g.to.Kind = api.NotNull }},
		{"the other Table", []uint8{api.Foreign}, func(g *given) { g.to.Table = "guest" }},
		{"the other one Late", []uint8{api.Foreign}, func(g *given) { g.to.Late = true }},
		{"the other one's columns", []uint8{api.Foreign}, func(g *given) { g.to.Cols = columns(5) }},
		{"more columns", []uint8{api.Foreign}, func(g *given) { g.to.Cols = columns(1, 2) }},
		{"OnDelete", []uint8{api.Foreign}, func(g *given) { g.r.OnDelete = api.SetBy + 1 }},
		{"OnUpdate", []uint8{api.Foreign}, func(g *given) { g.r.OnUpdate = api.SetBy + 1 }},
	}
	for kind, wrongType := range types {
		check(t, kind, api.ErrType, "a type", wrongType)
		for _, form := range forms {
			if slices.Contains(form.kinds, kind) {
				check(t, kind, api.ErrForm, form.what, form.set)
				check(t, kind, api.ErrForm, "a type, and "+form.what, func(g *given) { wrongType(g); form.set(g) })
			}
		}
	}
}

// The chapter's examples.
func TestExamples(t *testing.T) {
	if rule.MayTable(table("room")) {
		t.Error("a table without columns is valid")
	}
	checkCols(t, api.NotNull, api.ErrForm, 0, 1)
	check(t, api.Check, api.ErrType, "a column that is a number", func(g *given) { g.r.Is = col(0) })
	check(t, api.Foreign, api.ErrForm, "one column to one with two", func(g *given) { g.to.Cols = columns(1, 0) })
}
