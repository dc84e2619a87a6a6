package rule_test

import (
	"math"
	"slices"
	"strings"
	"testing"
	"unsafe"

	"covenant/api"
	"covenant/rule"
)

func number(n int64) api.Value   { return api.Value{Kind: api.Int, N: n} }
func truth(n int64) api.Value    { return api.Value{Kind: api.Bool, N: n} }
func text(s string) api.Value    { return api.Value{Kind: api.Text, T: s} }
func span(n, hi int64) api.Value { return api.Value{Kind: api.Span, N: n, Hi: hi} }

func lit(v api.Value) api.Expr { return api.Expr{Op: api.Lit, V: v} }
func col(n int) api.Expr       { return api.Expr{Op: api.Col, N: n} }
func of(op uint8, args ...api.Expr) api.Expr {
	return api.Expr{Op: op, Args: args}
}

func columns(cols ...int) []int { return cols }

var (
	null   = api.Value{}
	values = []api.Value{null, number(1), truth(1), text("a"), span(1, 4)}
	types  = []uint8{api.Int, api.Bool, api.Text, api.Span}
	kinds  = []uint8{api.NotNull, api.Check, api.Unique, api.Foreign, api.Apart}

	names = []string{
		"a", "z", "m", "room", "room_no", "a0", "a9", "z_", "a_", "a__0", "a_9_z", "abcdefghijklmnopqrstuvwxyz", "a0123456789_",
		strings.Repeat("a", api.MaxName), "z" + strings.Repeat("9", api.MaxName-1), "q" + strings.Repeat("_", api.MaxName-1),
	}
	noNames = []string{
		"", "A", "0", "_", " ", "\x00", "'", "0a", "9", "_a", "Room", "rOom", "rooM", "room no", " room", "room ", "room-no", "a.b", "a/b", "a'b", "a`", "a{", "a:", "a@", "a[", "a^",
		"é", "aé", "\xff", "a\xff", "a\x00", "\x00a", "a\n", "ａ", "aａ", "a٣",
		strings.Repeat("a", api.MaxName+1), strings.Repeat("a", api.MaxName) + "_", strings.Repeat("a", 2*api.MaxName), strings.Repeat("a", 256), strings.Repeat("a", 1<<16+1),
		strings.Repeat("a", api.MaxName-1) + "A", strings.Repeat("é", api.MaxName/2),
	}
)

// P8.1: Name reports whether a text is a name.
func TestName(t *testing.T) {
	for _, s := range names {
		if !rule.Name(s) {
			t.Errorf("Name(%q) = false", s)
		}
	}
	for _, s := range noNames {
		if rule.Name(s) {
			t.Errorf("Name(%q) = true", s)
		}
	}
}

// P8.1: a name has 1 to MaxName bytes.
func TestNamesOfEachLength(t *testing.T) {
	for n := range 4 * api.MaxName {
		for _, s := range []string{strings.Repeat("x", n), (strings.Repeat("x_0", n) + "x")[:n]} {
			if got := rule.Name(s); got != (n >= 1 && n <= api.MaxName) {
				t.Errorf("Name(%q) = %v, of %d bytes", s, got, n)
			}
		}
	}
}

// P8.1: each byte of a name is one of a to z, 0 to 9 and _ , and the first one a letter.
func TestNamesOfEachByte(t *testing.T) {
	const first = "abcdefghijklmnopqrstuvwxyz"
	const later = first + "0123456789_"
	for c := range 256 {
		at := string([]byte{byte(c)})
		if got := rule.Name(at + "room"); got != strings.Contains(first, at) {
			t.Errorf("Name(%q) = %v", at+"room", got)
		}
		if got := rule.Name(at); got != strings.Contains(first, at) {
			t.Errorf("Name(%q) = %v", at, got)
		}
		longest := strings.Repeat("r", api.MaxName)
		for i := 1; i < api.MaxName; i++ {
			s := longest[:i] + at + longest[i+1:]
			if got := rule.Name(s); got != strings.Contains(later, at) {
				t.Errorf("Name(%q) = %v", s, got)
			}
		}
	}
}

// table is one with columns of these types, named a, b, and so on.
func table(name string, types ...uint8) api.Table {
	t := api.Table{Name: name, Owner: "root"}
	for i, kind := range types {
		t.Cols = append(t.Cols, api.Column{Name: string(rune('a' + i)), Type: kind})
	}
	return t
}

func checkMayTable(t *testing.T, what string, x api.Table, want bool) {
	t.Helper()
	if got := rule.MayTable(x); got != want {
		t.Errorf("%s: MayTable(%+v) = %v", what, x, got)
	}
}

// P8.1: a table has 1 to MaxCols columns.
func TestMayTableOfSoManyColumns(t *testing.T) {
	for _, kind := range types {
		for n := range 4 * api.MaxCols {
			if n <= 26 {
				checkMayTable(t, "so many columns", table("room", slices.Repeat([]uint8{kind}, n)...), n >= 1 && n <= api.MaxCols)
			}
		}
	}
	checkMayTable(t, "an empty list", api.Table{Name: "room", Owner: "root", Cols: []api.Column{}}, false)
	checkMayTable(t, "nothing", api.Table{}, false)
	many := api.Table{Name: "room", Owner: "root", Cols: make([]api.Column, 1<<17)}
	if rule.MayTable(many) {
		t.Error("a table of very many columns")
	}
}

// P8.1: its Name, its Owner, and the Name of each column are names.
func TestMayTableOfNames(t *testing.T) {
	for want, list := range map[bool][]string{true: names, false: noNames} {
		for _, s := range list {
			x := table("room", types...)
			x.Name = s
			checkMayTable(t, "the Name", x, want)
			x = table("room", types...)
			x.Owner = s
			checkMayTable(t, "the Owner", x, want)
			for i := range x.Cols {
				x = table("room", types...)
				// Those names that are the other columns' are of one letter.
				if len(s) != 1 {
					x.Cols[i].Name = s
					checkMayTable(t, "a column's Name", x, want)
				}
			}
		}
	}
}

// P8.1: no two columns have the same Name, wherever they are; a column may be named as the table and its owner are.
func TestMayTableOfSameNames(t *testing.T) {
	for n := 2; n <= api.MaxCols; n++ {
		for i := range n {
			for j := range n {
				x := table("room", slices.Repeat(types, 2)[:n]...)
				x.Cols[i].Name = x.Cols[j].Name
				checkMayTable(t, "two of one Name", x, i == j)
			}
		}
	}
	x := table("room", api.Int, api.Int, api.Int)
	x.Cols[0].Name, x.Cols[1].Name, x.Cols[2].Name = "room", "root", "roo"
	checkMayTable(t, "named as others are", x, true)
	x.Owner = "room"
	checkMayTable(t, "the Owner named as the table is", x, true)
	x.Cols[0] = x.Cols[2]
	checkMayTable(t, "the same column again", x, false)
}

// P8.1: each column has one of the types.
func TestMayTableOfEachType(t *testing.T) {
	for kind := range 256 {
		for at := range 3 {
			x := table("room", api.Int, api.Text, api.Span)
			x.Cols[at].Type = uint8(kind)
			checkMayTable(t, "a type", x, kind >= int(api.Int) && kind <= int(api.Span))
		}
	}
}

// P8.1: each column's default is NULL, or a valid value of its type; with what is no type nothing is one.
func TestMayTableOfDefaults(t *testing.T) {
	longest := strings.Repeat("a", api.MaxText)
	valid := append(slices.Clone(values), number(math.MinInt64), number(math.MaxInt64), number(0), truth(0), text(""), text(longest), text("\xff'"), span(math.MinInt64, math.MaxInt64), span(-1, 0))
	invalid := []api.Value{
		{N: 1}, {Hi: 1}, {T: "a"}, {Kind: api.Int, Hi: 1}, {Kind: api.Int, T: "a"}, truth(2), truth(-1), {Kind: api.Bool, N: 1, Hi: 1}, {Kind: api.Bool, T: "a"},
		text(longest + "a"), {Kind: api.Text, N: 1, T: "a"}, {Kind: api.Text, Hi: 1}, span(1, 1), span(2, 1), {Kind: api.Span}, {Kind: api.Span, N: 1, Hi: 2, T: "a"}, {Kind: 5}, {Kind: 255, N: 1},
	}
	for kind := range 7 {
		for at := range 3 {
			x := table("room", api.Int, api.Text, api.Span)
			x.Cols[at].Type = uint8(kind)
			for _, v := range valid {
				x.Cols[at].By = v
				checkMayTable(t, "a valid default", x, slices.Contains(types, uint8(kind)) && (v == null || v.Kind == uint8(kind)))
			}
			for _, v := range invalid {
				x.Cols[at].By = v
				checkMayTable(t, "an invalid default", x, false)
			}
		}
	}
}

func checkNames(t *testing.T, r api.Rule, want ...int) {
	t.Helper()
	if got := rule.Names(r); !slices.Equal(got, want) {
		t.Errorf("Names(%+v) = %v, want %v", r, got, want)
	}
}

// P8.2: Names returns a rule's columns in increasing order, each once, whatever its Kind, and whatever else it has.
func TestNames(t *testing.T) {
	full := api.Rule{Name: "r", Table: "room", Is: of(api.Equal, col(6), col(7)), To: "u", OnDelete: api.SetBy, OnUpdate: api.Cascade, Late: true, Valid: true}
	for kind := range 256 {
		if uint8(kind) == api.Check {
			continue
		}
		for _, r := range []api.Rule{{}, full} {
			r.Kind = uint8(kind)
			checkNames(t, r)
			for _, list := range []struct{ cols, want []int }{
				{columns(), nil},
				{columns(0), columns(0)},
				{columns(7), columns(7)},
				{columns(0, 1, 2), columns(0, 1, 2)},
				{columns(2, 1, 0), columns(0, 1, 2)},
				{columns(5, 3, 4), columns(3, 4, 5)},
				{columns(1, 1), columns(1)},
				{columns(2, 0, 2, 0, 1, 2), columns(0, 1, 2)},
				{columns(3, 3, 3, 3), columns(3)},
				{columns(-1), columns(-1)},
				{columns(4, -1, 100, -1, 4), columns(-1, 4, 100)},
				{columns(math.MaxInt, 0, math.MinInt), columns(math.MinInt, 0, math.MaxInt)},
			} {
				r.Cols = list.cols
				checkNames(t, r, list.want...)
			}
		}
	}
}

// P8.2: the columns that a Check names are those of its expression, valid or not, whatever its Cols are.
func TestNamesOfChecks(t *testing.T) {
	for _, x := range []struct {
		is   api.Expr
		want []int
	}{
		{api.Expr{}, nil},
		{lit(truth(1)), nil},
		{col(3), columns(3)},
		{of(api.Less, lit(number(0)), col(0)), columns(0)},
		{of(api.And, of(api.Equal, col(5), col(1)), of(api.Not, of(api.Meet, col(1), col(3)))), columns(1, 3, 5)},
		{of(api.Less, col(2), col(2)), columns(2)},
		{of(api.Add, col(9), col(8), col(-7)), columns(-7, 8, 9)},
		{of(99, of(0, col(1))), columns(1)},
		{api.Expr{Op: api.Lit, N: 5, Args: []api.Expr{col(4)}}, columns(4)},
		{col(math.MinInt), columns(math.MinInt)},
	} {
		for _, cols := range [][]int{nil, columns(), columns(0), columns(2, 6, 2)} {
			checkNames(t, api.Rule{Kind: api.Check, Cols: cols, Is: x.is}, x.want...)
		}
	}
}

// change is one field that is another one in an otherwise equal rule.
type change struct {
	field string
	set   func(r *api.Rule)
}

// changes are one of each field, and of each part of its lists.
func changes() []change {
	return []change{
		{"Kind", func(r *api.Rule) { r.Kind++ }},
		{"Kind 0", func(r *api.Rule) { r.Kind = 0 }},
		{"Name", func(r *api.Rule) { r.Name += "_" }},
		{"no Name", func(r *api.Rule) { r.Name = "" }},
		{"Table", func(r *api.Rule) { r.Table = "other" }},
		{"no Table", func(r *api.Rule) { r.Table = "" }},
		{"Cols nil", func(r *api.Rule) { r.Cols = nil }},
		{"fewer Cols", func(r *api.Rule) { r.Cols = r.Cols[:max(len(r.Cols)-1, 0)] }},
		{"more Cols", func(r *api.Rule) { r.Cols = append(slices.Clone(r.Cols), 0) }},
		{"first of Cols", func(r *api.Rule) { r.Cols = columns(7, 2, 1) }},
		{"last of Cols", func(r *api.Rule) { r.Cols = columns(0, 2, 3) }},
		{"order of Cols", func(r *api.Rule) { r.Cols = columns(2, 0, 1) }},
		{"To", func(r *api.Rule) { r.To = "w" }},
		{"no To", func(r *api.Rule) { r.To = "" }},
		{"OnDelete", func(r *api.Rule) { r.OnDelete++ }},
		{"OnUpdate", func(r *api.Rule) { r.OnUpdate++ }},
		{"both On", func(r *api.Rule) { r.OnDelete, r.OnUpdate = r.OnUpdate, r.OnDelete }},
		{"Late", func(r *api.Rule) { r.Late = !r.Late }},
		{"Valid", func(r *api.Rule) { r.Valid = !r.Valid }},
		{"Late and Valid", func(r *api.Rule) { r.Late, r.Valid = r.Valid, r.Late }},
		{"no Is", func(r *api.Rule) { r.Is = api.Expr{} }},
		{"Is, its Op", func(r *api.Rule) { r.Is.Op = api.Or }},
		{"Is, its N", func(r *api.Rule) { r.Is.N = 1 }},
		{"Is, Kind of its V", func(r *api.Rule) { r.Is.V.Kind = api.Int }},
		{"Is, N of its V", func(r *api.Rule) { r.Is.V.N = 1 }},
		{"Is, Hi of its V", func(r *api.Rule) { r.Is.V.Hi = 1 }},
		{"Is, T of its V", func(r *api.Rule) { r.Is.V.T = "a" }},
		{"Is, no Args", func(r *api.Rule) { r.Is.Args = nil }},
		{"Is, fewer Args", func(r *api.Rule) { r.Is.Args = r.Is.Args[:1] }},
		{"Is, more Args", func(r *api.Rule) { r.Is.Args = append(slices.Clone(r.Is.Args), api.Expr{}) }},
		{"Is, order of its Args", func(r *api.Rule) { slices.Reverse(r.Is.Args) }},
		{"Is, the first Arg", func(r *api.Rule) { r.Is.Args[0].N = 1 }},
		{"Is, the first Arg's Arg", func(r *api.Rule) { r.Is.Args[0].Args = []api.Expr{{}} }},
		{"Is, the last Arg", func(r *api.Rule) { r.Is.Args[1].Op = api.Less }},
		{"Is, the last Arg's first Arg", func(r *api.Rule) { r.Is.Args[1].Args[0].N = 2 }},
		{"Is, the last Arg's last Arg", func(r *api.Rule) { r.Is.Args[1].Args[1].V.T = "b" }},
		{"Is, the last Arg's last Arg's Arg", func(r *api.Rule) { r.Is.Args[1].Args[1].Args = []api.Expr{col(0)} }},
	}
}

// filled is a rule with something in each field.
func filled() api.Rule {
	return api.Rule{
		Kind: api.Foreign, Name: "r", Table: "guest", Cols: columns(0, 2, 1),
		Is: of(api.And, col(0), of(api.Equal, col(1), lit(text("a")))),
		To: "u", OnDelete: api.Cascade, OnUpdate: api.SetNull, Late: true,
	}
}

// P8.2: two rules are the same if all fields are, whatever their Kind.
func TestSame(t *testing.T) {
	for kind := range 256 {
		a, b := filled(), filled()
		a.Kind, b.Kind = uint8(kind), uint8(kind)
		if !rule.Same(a, b) || !rule.Same(a, a) || rule.Same(a, api.Rule{Kind: a.Kind}) {
			t.Errorf("Same of two of Kind %d", kind)
		}
	}
	if !rule.Same(api.Rule{}, api.Rule{}) || rule.Same(filled(), api.Rule{}) || rule.Same(api.Rule{}, filled()) {
		t.Error("Same of nothing")
	}
	for i, one := range changes() {
		a := filled()
		one.set(&a)
		if rule.Same(a, filled()) || rule.Same(filled(), a) {
			t.Errorf("%s: the same", one.field)
		}
		for k, other := range changes() {
			b := filled()
			other.set(&b)
			if got := rule.Same(a, b); got != (i == k) || rule.Same(b, a) != got {
				t.Errorf("%s, %s: Same = %v", one.field, other.field, got)
			}
		}
	}
}

// P8.2: a list without elements is the same whether it is nil or not, and what is behind a list does not count.
func TestSameOfLists(t *testing.T) {
	a, b := filled(), filled()
	a.Cols, b.Cols = nil, columns()
	a.Is.Args, b.Is.Args = nil, []api.Expr{}
	if !rule.Same(a, b) || !rule.Same(b, a) {
		t.Error("nil and empty lists: not the same")
	}
	b.Cols, b.Is.Args = columns(1, 2)[:0], []api.Expr{{}, {}}[:0]
	if !rule.Same(a, b) || !rule.Same(b, a) {
		t.Error("lists that were cut: not the same")
	}
	a, b = filled(), filled()
	b.Cols = append(slices.Clone(a.Cols), 9)[:len(a.Cols)]
	b.Is.Args = append(slices.Clone(a.Is.Args), lit(null))[:len(a.Is.Args)]
	if !rule.Same(a, b) || !rule.Same(b, a) {
		t.Error("lists with something behind: not the same")
	}
	// Lists of one memory that are of different lengths.
	shared := []api.Expr{col(0), col(1), col(2)}
	a.Is = of(api.And, of(api.Or, shared[:2]...), of(api.Or, shared[:2]...))
	b.Is = of(api.And, of(api.Or, shared[:2]...), of(api.Or, shared...))
	if rule.Same(a, b) || rule.Same(b, a) {
		t.Error("a longer list of one memory: the same")
	}
	// What is the same as one part, and not as another one that stands in its place.
	left, right := of(api.Not, col(1)), of(api.Not, col(2))
	a.Is = of(api.And, left, left)
	b.Is = of(api.And, left, right)
	if rule.Same(a, b) || rule.Same(b, a) {
		t.Error("one part twice, and two parts: the same")
	}
}

// P8.2: two tables are the same if all fields are.
func TestSameTable(t *testing.T) {
	full := func() api.Table {
		x := table("room", api.Int, api.Text, api.Span)
		x.Cols[1].By = text("a")
		x.Cols[2].By = span(1, 4)
		return x
	}
	type change struct {
		field string
		set   func(x *api.Table)
	}
	changes := []change{
		{"Name", func(x *api.Table) { x.Name = "rooms" }},
		{"Owner", func(x *api.Table) { x.Owner = "ann" }},
		{"Name and Owner", func(x *api.Table) { x.Name, x.Owner = x.Owner, x.Name }},
		{"Cols nil", func(x *api.Table) { x.Cols = nil }},
		{"fewer Cols", func(x *api.Table) { x.Cols = x.Cols[:2] }},
		{"more Cols", func(x *api.Table) { x.Cols = append(x.Cols, api.Column{}) }},
		{"order of Cols", func(x *api.Table) { slices.Reverse(x.Cols) }},
		{"first column's Name", func(x *api.Table) { x.Cols[0].Name = "z" }},
		{"last column's Name", func(x *api.Table) { x.Cols[2].Name = "z" }},
		{"first column's Type", func(x *api.Table) { x.Cols[0].Type = api.Bool }},
		{"last column's Type", func(x *api.Table) { x.Cols[2].Type = 0 }},
		{"first column's By", func(x *api.Table) { x.Cols[0].By = number(0) }},
		{"no By", func(x *api.Table) { x.Cols[1].By = null }},
		{"Kind of By", func(x *api.Table) { x.Cols[1].By.Kind = api.Int }},
		{"N of By", func(x *api.Table) { x.Cols[1].By.N = 1 }},
		{"T of By", func(x *api.Table) { x.Cols[1].By.T = "b" }},
		{"Hi of By", func(x *api.Table) { x.Cols[2].By.Hi = 5 }},
	}
	if !rule.SameTable(full(), full()) || !rule.SameTable(api.Table{}, api.Table{}) || rule.SameTable(full(), api.Table{}) {
		t.Error("SameTable of equal ones, or of nothing")
	}
	for i, one := range changes {
		a := full()
		one.set(&a)
		if rule.SameTable(a, full()) || rule.SameTable(full(), a) {
			t.Errorf("%s: the same", one.field)
		}
		for k, other := range changes {
			b := full()
			other.set(&b)
			if got := rule.SameTable(a, b); got != (i == k) || rule.SameTable(b, a) != got {
				t.Errorf("%s, %s: SameTable = %v", one.field, other.field, got)
			}
		}
	}
	a, b := full(), full()
	a.Cols, b.Cols = nil, []api.Column{}
	if !rule.SameTable(a, b) || !rule.SameTable(b, a) {
		t.Error("nil and empty Cols: not the same")
	}
	a, b = full(), full()
	b.Cols = append(b.Cols, api.Column{})[:len(a.Cols)]
	if !rule.SameTable(a, b) {
		t.Error("Cols with something behind: not the same")
	}
}

// endless are expressions that are too large to be gone through part by part: some contain themselves.
func endless() []api.Expr {
	chain := col(0)
	for range 1 << 16 {
		chain = of(api.Not, chain)
	}
	shared := col(5)
	for range 100 {
		shared = of(api.And, shared, shared)
	}
	ring := []api.Expr{of(api.And, col(5), col(2))}
	ring[0].Args[0].Args = ring
	knot := []api.Expr{of(api.Or), of(api.And), col(5)}
	knot[0].Args, knot[1].Args = knot[1:], knot[:2]
	return []api.Expr{chain, shared, ring[0], knot[0], knot[1], of(api.And, make([]api.Expr, 1<<20)...)}
}

// P8.1, P8.2: whatever an expression contains, each call ends.
func TestEndlessExpressions(t *testing.T) {
	wants := [][]int{{0}, {5}, {2, 5}, {5}, {5}, nil}
	again := endless()
	for i, e := range endless() {
		r := api.Rule{Kind: api.Check, Name: "r", Table: "room", Is: e}
		if got := rule.Fits(r, table("room", slices.Repeat([]uint8{api.Bool}, 8)...), api.Rule{}, api.Table{}); got != api.ErrForm {
			t.Errorf("%d: Fits = %d", i, got)
		}
		if got := rule.Names(r); !slices.Equal(got, wants[i]) {
			t.Errorf("%d: Names = %v", i, got)
		}
		for k := range again {
			if got := rule.Same(r, api.Rule{Kind: api.Check, Name: "r", Table: "room", Is: again[k]}); got != (i == k) {
				t.Errorf("%d, %d: Same = %v", i, k, got)
			}
		}
	}
}

// P8.2: two expressions that contain themselves are the same if they differ nowhere.
func TestSameOfRings(t *testing.T) {
	ring := func(n int, last api.Expr) api.Rule {
		l := make([]api.Expr, n)
		for i := range l {
			l[i] = of(api.Not)
		}
		l[n-1].Op, l[n-1].N = last.Op, last.N
		for i := range l {
			l[i].Args = l[(i+1)%n : (i+1)%n+1]
		}
		return api.Rule{Is: l[0]}
	}
	for n := 1; n <= 12; n++ {
		for m := 1; m <= 12; m++ {
			if !rule.Same(ring(n, of(api.Not)), ring(m, of(api.Not))) {
				t.Errorf("rings of %d and %d: not the same", n, m)
			}
			if got := rule.Same(ring(n, col(1)), ring(m, col(1))); got != (n == m) {
				t.Errorf("rings of %d and %d with another one in it: Same = %v", n, m, got)
			}
			if rule.Same(ring(n, of(api.Not)), ring(m, of(api.Neg))) {
				t.Errorf("rings of %d and %d with another Op: the same", n, m)
			}
		}
	}
}

// P8.1, P8.2: what is handed in stays as it was.
func TestArgumentsStay(t *testing.T) {
	make4 := func() (api.Rule, api.Table, api.Rule, api.Table) {
		r := filled()
		r.Cols = append(r.Cols, 1, 0, 77)[:5]
		return r, table("guest", types...), api.Rule{Kind: api.Unique, Name: "u", Table: "room", Cols: columns(3, 1, 1), Valid: true}, table("room", types...)
	}
	r, x, to, y := make4()
	r2, x2, to2, y2 := make4()
	for kind := range 7 {
		r.Kind, r2.Kind = uint8(kind), uint8(kind)
		rule.Fits(r, x, to, y)
		rule.Fits(to, y, r, x)
		rule.Names(r)
		rule.Names(to)
		rule.Same(r, to)
		rule.Same(r, r2)
		rule.MayTable(x)
		rule.SameTable(x, y)
		// The lists are held against each other without Same, up to their capacity.
		if !slices.Equal(r.Cols[:6], columns(0, 2, 1, 1, 0, 77)) || !slices.Equal(to.Cols, to2.Cols) || !slices.Equal(x.Cols, x2.Cols) || !slices.Equal(y.Cols, y2.Cols) {
			t.Fatalf("Kind %d: %+v, %+v, %+v, %+v", kind, r, x, to, y)
		}
		if !rule.Same(r, r2) || !rule.Same(to, to2) {
			t.Fatalf("Kind %d: %+v, %+v", kind, r, to)
		}
	}
}

// P8.2: what Names answers is not changed with the rule, nor the rule with it.
func TestAnswersAreNewMemory(t *testing.T) {
	for _, kind := range kinds {
		r := api.Rule{Kind: kind, Cols: columns(0, 1, 2), Is: of(api.And, col(0), of(api.Or, col(1), col(2)))}
		got := rule.Names(r)
		r.Cols[0], r.Cols[2], r.Is.Args[0].N = 7, 8, 9
		if !slices.Equal(got, columns(0, 1, 2)) {
			t.Errorf("Kind %d: Names changed to %v", kind, got)
		}
		was := slices.Clone(r.Cols)
		clear(got[:cap(got)])
		if !slices.Equal(r.Cols, was) || r.Is.Args[0].N != 9 {
			t.Errorf("Kind %d: the rule changed to %+v", kind, r)
		}
	}
}

// P8.1, P8.2: nothing that is handed in is kept: the answers depend on what texts and lists have become.
func TestNothingIsKept(t *testing.T) {
	letters := []byte("guest")
	name := unsafe.String(&letters[0], len(letters))
	x := table(name, api.Int)
	r := api.Rule{Kind: api.NotNull, Name: name, Table: name, Cols: columns(0)}
	if !rule.Name(name) || !rule.MayTable(x) || rule.Fits(r, x, api.Rule{}, api.Table{}) != api.OK || !rule.SameTable(x, table("guest", api.Int)) {
		t.Error("before")
	}
	letters[0] = 'G'
	r.Cols[0] = 1
	x.Cols[0].Type = 0
	if rule.Name(name) || rule.MayTable(x) || rule.Fits(r, x, api.Rule{}, api.Table{}) != api.ErrForm || rule.SameTable(x, table("guest", api.Int)) {
		t.Error("after")
	}
	if !slices.Equal(rule.Names(r), columns(1)) {
		t.Error("Names after")
	}
}
