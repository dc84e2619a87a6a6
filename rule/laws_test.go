package rule_test

import (
	"math/rand/v2"
	"slices"
	"strings"
	"testing"

	"covenant/api"
	"covenant/expr"
	"covenant/rule"
)

// rounds is how often each law is tried.
const rounds = 20000

// maker makes tables and rules, the same ones in each run.
type maker struct{ *rand.Rand }

func newMaker() maker { return maker{rand.New(rand.NewPCG(8, 5))} }

// pick is one of a list.
func pick[T any](m maker, list ...T) T { return list[m.IntN(len(list))] }

// rarely is true once in twelve times.
func (m maker) rarely() bool { return m.IntN(12) == 0 }

// table is one that is mostly valid.
func (m maker) table(name string) api.Table {
	t := api.Table{Name: name, Owner: pick(m, "root", "ann")}
	letters := m.Perm(12)
	for i := range 1 + m.IntN(api.MaxCols) {
		c := api.Column{Name: string(rune('a' + letters[i])), Type: pick(m, types...)}
		if m.IntN(3) == 0 {
			c.By = values[c.Type]
		}
		t.Cols = append(t.Cols, c)
	}
	if m.rarely() {
		i := m.IntN(len(t.Cols))
		t.Cols[i].Type = pick[uint8](m, 0, 1, 4, 5)
		t.Cols[m.IntN(len(t.Cols))].Name = t.Cols[i].Name
	}
	return t
}

// cols are some columns of a table, mostly valid ones, of the types that are asked for, where it has them.
func (m maker) cols(t api.Table, asked ...uint8) []int {
	var cols []int
	for _, kind := range asked {
		for _, c := range m.Perm(len(t.Cols)) {
			if !slices.Contains(cols, c) && (kind == 0 || t.Cols[c].Type == kind) {
				cols = append(cols, c)
				break
			}
		}
	}
	if m.rarely() {
		cols = append(cols, pick(m, -1, 0, 1, 7, 8))
	}
	return cols
}

// is is an expression, mostly one that is a truth value over the columns of a table.
func (m maker) is(t api.Table, levels int) api.Expr {
	c := m.IntN(len(t.Cols))
	v := lit(values[min(int(t.Cols[c].Type), int(api.Span))])
	if m.rarely() {
		return pick(m, v, col(c), col(len(t.Cols)), of(api.Not, v), of(api.Not))
	}
	if levels > 1 && m.IntN(3) == 0 {
		return of(pick(m, api.And, api.Or), m.is(t, levels-1), m.is(t, levels-1))
	}
	return pick(m, of(api.IsNull, col(c)), of(api.Equal, col(c), v), of(api.Less, v, col(c)), lit(truth(1)))
}

// given is a rule of a Kind, which mostly fits.
func (m maker) given(kind uint8) given {
	g := given{t: m.table("guest"), of: m.table("room")}
	g.r = api.Rule{Kind: kind, Name: pick(m, "r", "u"), Table: "guest", OnDelete: pick[uint8](m, 0, 1, 2, 3, 4), Valid: m.IntN(2) == 0}
	g.to = api.Rule{Kind: api.Unique, Name: "u", Table: "room", Cols: m.cols(g.of, 0, 0)[:1], Valid: true}
	switch kind {
	case api.NotNull:
		g.r.Cols = m.cols(g.t, 0)
	case api.Check:
		g.r.Is = m.is(g.t, 3)
	case api.Unique:
		g.r.Cols, g.r.Valid, g.r.Late = m.cols(g.t, make([]uint8, 1+m.IntN(4))...), true, m.IntN(2) == 0
	case api.Foreign:
		g.r.To, g.r.Late = "u", m.IntN(2) == 0
		if c := g.to.Cols[0]; c >= 0 && c < len(g.of.Cols) {
			g.r.Cols = m.cols(g.t, g.of.Cols[c].Type)
		}
	case api.Apart:
		g.r.Cols, g.r.Valid = m.cols(g.t, append(make([]uint8, m.IntN(2)), api.Span)...), true
	}
	if m.rarely() {
		pick(m, changes()[:20]...).set(&g.r)
	}
	return g
}

// counts are how often rules of each Kind fitted, and did not.
type counts [256][2]int

func (c *counts) add(kind uint8, fits bool) {
	if fits {
		c[kind][0]++
	} else {
		c[kind][1]++
	}
}

func (c *counts) check(t *testing.T) {
	t.Helper()
	for _, kind := range kinds {
		if c[kind][0] < rounds/50 || c[kind][1] < rounds/200 {
			t.Errorf("too few are tried: %v of Kind %d", c[kind], kind)
		}
	}
}

// further is a table with further columns after its own, of names that are new, as many as may be at most.
func (m maker) further(t api.Table) api.Table {
	t.Cols = slices.Clone(t.Cols)
	for i := range m.IntN(api.MaxCols - len(t.Cols) + 1) {
		t.Cols = append(t.Cols, api.Column{Name: "further" + string(rune('0'+i)), Type: pick(m, types...)})
	}
	return t
}

// P8.3: a valid table is valid without one of its columns, if it has two.
func TestWithoutAColumn(t *testing.T) {
	m := newMaker()
	valid, invalid := 0, 0
	for range rounds {
		x := m.table("room")
		if !rule.MayTable(x) {
			invalid++
			continue
		}
		valid++
		for i := range x.Cols {
			without := x
			without.Cols = slices.Delete(slices.Clone(x.Cols), i, i+1)
			if got := rule.MayTable(without); got != (len(x.Cols) >= 2) {
				t.Fatalf("without column %d: MayTable(%+v) = %v", i, without, got)
			}
		}
	}
	if valid < rounds/2 || invalid < rounds/100 {
		t.Errorf("too few are tried: %d, %d", valid, invalid)
	}
}

// P8.3: a rule that fits also fits with further columns after the table's, and the other table's.
func TestWithFurtherColumns(t *testing.T) {
	m := newMaker()
	var tried counts
	for range rounds {
		g := m.given(pick(m, kinds...))
		tried.add(g.r.Kind, g.fits() == api.OK)
		if g.fits() != api.OK {
			continue
		}
		with := g
		with.t, with.of = m.further(g.t), m.further(g.of)
		if rule.MayTable(with.t) != rule.MayTable(g.t) {
			t.Fatalf("MayTable(%+v), MayTable(%+v) differ", g.t, with.t)
		}
		if e := with.fits(); e != api.OK {
			t.Fatalf("%+v fits; with further columns, %+v: %d", g, with, e)
		}
	}
	tried.check(t)
}

// P8.4: a rule that fits names only columns of its table, and those are its own.
func TestNamedColumns(t *testing.T) {
	m := newMaker()
	var tried counts
	for range rounds {
		g := m.given(pick(m, kinds...))
		named := rule.Names(g.r)
		if !slices.IsSorted(named) || len(slices.Compact(slices.Clone(named))) != len(named) {
			t.Fatalf("Names(%+v) = %v", g.r, named)
		}
		tried.add(g.r.Kind, g.fits() == api.OK)
		if g.fits() != api.OK {
			continue
		}
		for _, c := range named {
			if c < 0 || c >= len(g.t.Cols) {
				t.Fatalf("%+v fits, and names %v", g, named)
			}
		}
		own := g.r.Cols
		if g.r.Kind == api.Check {
			own = expr.Cols(g.r.Is)
		}
		if slices.ContainsFunc(own, func(c int) bool { return !slices.Contains(named, c) }) || len(own) != len(named) {
			t.Fatalf("Names(%+v) = %v", g.r, named)
		}
	}
	tried.check(t)
}

// P8.4: a column that a rule that fits does not name may have any other type, and the rule still fits.
func TestColumnsThatAreNotNamed(t *testing.T) {
	m := newMaker()
	var tried counts
	for range rounds {
		g := m.given(pick(m, kinds...))
		tried.add(g.r.Kind, g.fits() == api.OK)
		if g.fits() != api.OK {
			continue
		}
		other := g
		other.t, other.of = m.retyped(g.t, rule.Names(g.r)), m.retyped(g.of, rule.Names(g.to))
		if e := other.fits(); e != api.OK {
			t.Fatalf("%+v fits; with other types, %+v: %d", g, other, e)
		}
	}
	tried.check(t)
}

// retyped is a table whose columns have other types, but for those that are named.
func (m maker) retyped(t api.Table, named []int) api.Table {
	t.Cols = slices.Clone(t.Cols)
	for i := range t.Cols {
		if !slices.Contains(named, i) {
			t.Cols[i].Type, t.Cols[i].By = pick(m, types...), null
		}
	}
	return t
}

// copied is an expression in memory of its own; what has no Args gets an empty list.
func copied(e api.Expr) api.Expr {
	args := []api.Expr{}
	for _, arg := range e.Args {
		args = append(args, copied(arg))
	}
	e.Args = args
	e.V.T = strings.Clone(e.V.T)
	return e
}

// P8.5: Same and SameTable are symmetric, and what is the same fits the same.
func TestSameness(t *testing.T) {
	m := newMaker()
	var tried counts
	for range rounds {
		g := m.given(pick(m, kinds...))
		again := g
		again.r.Cols, again.r.Is = append([]int{}, g.r.Cols...), copied(g.r.Is)
		again.to.Cols = append([]int{}, g.to.Cols...)
		again.t.Cols, again.of.Cols = slices.Clone(g.t.Cols), slices.Clone(g.of.Cols)
		if !rule.Same(g.r, again.r) || !rule.Same(again.r, g.r) || !rule.Same(g.to, again.to) || !rule.SameTable(g.t, again.t) || !rule.SameTable(again.of, g.of) {
			t.Fatalf("%+v and %+v: not the same", g, again)
		}
		tried.add(g.r.Kind, g.fits() == api.OK)
		if g.fits() != again.fits() || !slices.Equal(rule.Names(g.r), rule.Names(again.r)) || rule.MayTable(g.t) != rule.MayTable(again.t) {
			t.Fatalf("%+v: %d, %+v: %d", g, g.fits(), again, again.fits())
		}
	}
	tried.check(t)
}

// P8.5: of all pairs of rules, and of tables, both ways give one answer, and those are the same that fit alike in all that is tried.
func TestSamenessOfPairs(t *testing.T) {
	m := newMaker()
	list := make([]given, 500)
	for i := range list {
		list[i] = m.given(pick(m, kinds...))
	}
	for i, a := range list {
		for k, b := range list {
			same, sameTable := rule.Same(a.r, b.r), rule.SameTable(a.t, b.t)
			if same != rule.Same(b.r, a.r) || sameTable != rule.SameTable(b.t, a.t) || i == k && !(same && sameTable) {
				t.Fatalf("Same, SameTable of %+v and %+v: %v, %v", a, b, same, sameTable)
			}
			if same && rule.Fits(a.r, a.t, a.to, a.of) != rule.Fits(b.r, a.t, a.to, a.of) {
				t.Fatalf("%+v and %+v are the same, and do not fit the same", a.r, b.r)
			}
			if sameTable && rule.Fits(a.r, a.t, a.to, a.of) != rule.Fits(a.r, b.t, a.to, a.of) {
				t.Fatalf("%+v and %+v are the same, and not the same fits", a.t, b.t)
			}
		}
	}
}
