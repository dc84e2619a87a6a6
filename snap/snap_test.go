package snap_test

import (
	"math"
	"slices"
	"strconv"
	"strings"
	"testing"

	"covenant/api"
	"covenant/snap"
	"covenant/xid"
)

// nowhere are IDs that none of n transactions has.
func nowhere(n int) []int {
	return []int{0, -1, -2, -max(n, 1), -n - 1, math.MinInt, math.MinInt + 1, n + 1, n + 2, 2*n + 1, n + 1<<32, math.MaxInt}
}

// numbers are what At may be where there are some commits: each number, and what lies beside and far beyond them.
func numbers(last int) []int {
	list := []int{math.MinInt, -last - 1, -1, last + 1, last + 2, last + 1<<32, math.MaxInt}
	for n := range last + 1 {
		list = append(list, n)
	}
	return list
}

// step is a call that changes a table: of Begin (b), Commit (c) or Abort (a).
type step struct {
	do byte
	id int
}

// steps are those that a text names: "b0 b1 c2 a1".
func steps(text string) []step {
	var list []step
	for _, word := range strings.Fields(text) {
		id, err := strconv.Atoi(word[1:])
		if err != nil {
			panic(word)
		}
		list = append(list, step{word[0], id})
	}
	return list
}

// do does a step.
func do(x *xid.Table, s step) api.Errno {
	switch s.do {
	case 'c':
		return x.Commit(s.id)
	case 'a':
		return x.Abort(s.id)
	}
	_, e := x.Begin(s.id)
	return e
}

// play does steps, none of which may be refused.
func play(t *testing.T, x *xid.Table, text string) {
	t.Helper()
	for _, s := range steps(text) {
		if e := do(x, s); e != api.OK {
			t.Fatalf("%c%d: %d", s.do, s.id, e)
		}
	}
}

// tableOf is a table on which steps were done.
func tableOf(t *testing.T, text string) *xid.Table {
	t.Helper()
	x := xid.New()
	play(t, x, text)
	return x
}

// mark is what a viewer answers about a transaction: o that it is its own, s that it sees it otherwise, l that it is committed later, - nothing of that.
func mark(v snap.Viewer, x *xid.Table, id int) byte {
	switch [3]bool{v.Own(x, id), v.Sees(x, id), v.Later(x, id)} {
	case [3]bool{true, true, false}:
		return 'o'
	case [3]bool{false, true, false}:
		return 's'
	case [3]bool{false, false, true}:
		return 'l'
	case [3]bool{false, false, false}:
		return '-'
	}
	return '?'
}

// look is what a viewer answers about each transaction.
func look(v snap.Viewer, x *xid.Table) string {
	s := ""
	for id := 1; id <= x.Len(); id++ {
		s += string(mark(v, x, id))
	}
	return s
}

// check checks what a viewer answers about each transaction (a text in which spaces don't count), and about those that there are not.
func check(t *testing.T, v snap.Viewer, x *xid.Table, want string) {
	t.Helper()
	if got := look(v, x); got != strings.ReplaceAll(want, " ", "") {
		t.Errorf("%v: got %s, want %s", v, got, want)
	}
	checkNone(t, v, x)
}

// checkNone checks that a viewer answers nothing about transactions that there are not.
func checkNone(t *testing.T, v snap.Viewer, x *xid.Table) {
	t.Helper()
	for _, id := range nowhere(x.Len()) {
		if mark(v, x, id) != '-' {
			t.Errorf("%v: %d: %c", v, id, mark(v, x, id))
		}
	}
}

// The chapter's example, line by line.
func TestExample(t *testing.T) {
	x := tableOf(t, "b0 b1 b0")
	v, before := snap.Now(x, 3), snap.Now(x, 0)
	if !v.Sees(x, 3) || v.Sees(x, 2) {
		t.Error("the current viewer, as 3:", look(v, x))
	}
	play(t, x, "c1")
	if v = snap.Now(x, 3); !v.Sees(x, 1) || !v.Sees(x, 2) || !v.Sees(x, 3) {
		t.Error("1 is committed:", look(v, x))
	}
	if !before.Later(x, 2) || before.Sees(x, 2) {
		t.Error("the snapshot taken before that:", look(before, x))
	}
}

// P10.1: the current viewer sees as many commits as there are, and is who was given, whoever that is.
func TestNow(t *testing.T) {
	x := xid.New()
	ats := []int{0, 0, 0, 0, 1, 1, 1, 2, 2, 2, 3, 3, 3}
	for i, s := range steps("b0 b1 b0 c2 c3 b0 b4 c1 a5 b4 c4 b0 a7") {
		if e := do(x, s); e != api.OK {
			t.Fatalf("%c%d: %d", s.do, s.id, e)
		}
		for _, me := range append(nowhere(x.Len()), 1, 2, 3, 4, 5, 6, 7) {
			if v := snap.Now(x, me); v != (snap.Viewer{At: ats[i], Me: me}) {
				t.Errorf("%c%d: Now of %d = %v", s.do, s.id, me, v)
			}
		}
	}
}

// P10.1: with a nil table each call answers nothing, whoever asks; the current viewer sees no commits.
func TestNil(t *testing.T) {
	for _, me := range append(nowhere(0), 2, 3) {
		if v := snap.Now(nil, me); v.At != 0 || v.Me != me {
			t.Errorf("Now of %d = %v", me, v)
		}
		for _, at := range numbers(2) {
			v := snap.Viewer{At: at, Me: me}
			checkNone(t, v, nil)
			for id := 1; id <= 3; id++ {
				if mark(v, nil, id) != '-' {
					t.Errorf("%v: %d: %c", v, id, mark(v, nil, id))
				}
			}
		}
	}
}

// P10.1: a table without transactions has nothing to be seen, whoever asks: not even one whose Me is the ID that is asked for.
func TestNone(t *testing.T) {
	for _, x := range []*xid.Table{xid.New(), xid.New().Copy(), {}} {
		for _, me := range nowhere(0) {
			if v := snap.Now(x, me); v.At != 0 || v.Me != me {
				t.Errorf("Now of %d = %v", me, v)
			}
			for _, at := range numbers(0) {
				check(t, snap.Viewer{At: at, Me: me}, x, "")
			}
		}
	}
}

// mixture has, below the top ones 1, 6, 12, 15, 17 and 19, all that there may be: the first, second and third commit are those of 1, 15 and 17, 6 and 19 are Running, 12 is Gone.
func mixture(t *testing.T) *xid.Table {
	t.Helper()
	x := tableOf(t, "b0 b1 b1 b2 b3 a3  b0 b6 b6 b6 b8 b9 a9 c8  b0 b12 b13 c13 a12  b0 b15  c2 c1  b0 b17 a18  c15 c17 b0")
	states := "DDGDG RRDGDG GGG DD DG R"
	for id := 1; id <= x.Len(); id++ {
		if "-RDG"[x.State(id)] != strings.ReplaceAll(states, " ", "")[id-1] {
			t.Fatalf("%d: %d", id, x.State(id))
		}
	}
	return x
}

// P10.1: transactions below one another, side by side, Running, Done and Gone, as viewers with each number of commits see them, without a transaction of their own.
func TestAt(t *testing.T) {
	x := mixture(t)
	for _, c := range []struct {
		at   int
		want string
	}{
		{math.MinInt, "ll-l- ------ --- ll l- -"},
		{-3, "ll-l- ------ --- ll l- -"},
		{-1, "ll-l- ------ --- ll l- -"},
		{0, "ll-l- ------ --- ll l- -"},
		{1, "ss-s- ------ --- ll l- -"},
		{2, "ss-s- ------ --- ss l- -"},
		{3, "ss-s- ------ --- ss s- -"},
		{4, "ss-s- ------ --- ss s- -"},
		{1 << 40, "ss-s- ------ --- ss s- -"},
		{math.MaxInt, "ss-s- ------ --- ss s- -"},
	} {
		check(t, snap.Viewer{At: c.at}, x, c.want)
	}
}

// P10.1, P10.4: a viewer's own are those that count below the top one that is its Me, whatever its At is.
func TestMe(t *testing.T) {
	x := mixture(t)
	for _, c := range []struct {
		at, me int
		want   string
	}{
		{0, 6, "ll-l- ooo-o- --- ll l- -"},
		{1, 6, "ss-s- ooo-o- --- ll l- -"},
		{2, 6, "ss-s- ooo-o- --- ss l- -"},
		{3, 6, "ss-s- ooo-o- --- ss s- -"},
		{-1, 6, "ll-l- ooo-o- --- ll l- -"},
		{math.MinInt, 6, "ll-l- ooo-o- --- ll l- -"},
		{math.MaxInt, 6, "ss-s- ooo-o- --- ss s- -"},
		{0, 1, "oo-o- ------ --- ll l- -"},
		{-1, 1, "oo-o- ------ --- ll l- -"},
		{3, 1, "oo-o- ------ --- ss s- -"},
		{0, 15, "ll-l- ------ --- oo l- -"},
		{1, 15, "ss-s- ------ --- oo l- -"},
		{2, 17, "ss-s- ------ --- ss o- -"},
		{2, 12, "ss-s- ------ --- ss l- -"},
		{0, 19, "ll-l- ------ --- ll l- o"},
		{3, 19, "ss-s- ------ --- ss s- o"},
	} {
		check(t, snap.Viewer{At: c.at, Me: c.me}, x, c.want)
	}
}

// P10.1, P10.4: a Me that is not the ID of a top one, or that there is not, makes no transaction the viewer's own, even if the one asked for has that ID.
func TestMeThatIsNoTop(t *testing.T) {
	x := mixture(t)
	for _, me := range append(nowhere(x.Len()), 2, 3, 4, 5, 7, 8, 9, 10, 11, 13, 14, 16, 18) {
		check(t, snap.Viewer{At: 0, Me: me}, x, "ll-l- ------ --- ll l- -")
		check(t, snap.Viewer{At: 2, Me: me}, x, "ss-s- ------ --- ss l- -")
		check(t, snap.Viewer{At: math.MaxInt, Me: me}, x, "ss-s- ------ --- ss s- -")
	}
}

// scene is some steps, and what the viewers that there are see behind them: first those of before, then one more, the current viewer.
type scene struct {
	steps string
	want  []string
}

// perform does the steps of each scene; Me is that of all viewers.
func perform(t *testing.T, me int, scenes ...scene) {
	t.Helper()
	x := xid.New()
	var all []snap.Viewer
	for i, s := range scenes {
		play(t, x, s.steps)
		all = append(all, snap.Now(x, me))
		if len(s.want) != len(all) {
			t.Fatal("scene", i+1, "has", len(s.want), "viewers")
		}
		for j, v := range all {
			check(t, v, x, s.want[j])
		}
		if t.Failed() {
			t.Fatal("scene", i+1)
		}
	}
}

// P10.1, P10.2, P10.3: snapshots that are taken behind each step are asked again behind each later one.
func TestSnapshots(t *testing.T) {
	perform(t, 0,
		scene{"", []string{""}},
		scene{"b0", []string{"-", "-"}},
		scene{"b1", []string{"--", "--", "--"}},
		scene{"b0", []string{"-- -", "-- -", "-- -", "-- -"}},
		scene{"c2", []string{"-- -", "-- -", "-- -", "-- -", "-- -"}},
		scene{"c3", []string{"-- l", "-- l", "-- l", "-- l", "-- l", "-- s"}},
		scene{"b1", []string{"-- l-", "-- l-", "-- l-", "-- l-", "-- l-", "-- s-", "-- s-"}},
		scene{"a4", []string{"-- l-", "-- l-", "-- l-", "-- l-", "-- l-", "-- s-", "-- s-", "-- s-"}},
		scene{"c1", []string{"ll l-", "ll l-", "ll l-", "ll l-", "ll l-", "ll s-", "ll s-", "ll s-", "ss s-"}},
		scene{"b0 b5", []string{"ll l- --", "ll l- --", "ll l- --", "ll l- --", "ll l- --", "ll s- --", "ll s- --", "ll s- --", "ss s- --", "ss s- --"}},
		scene{"c5", []string{"ll l- ll", "ll l- ll", "ll l- ll", "ll l- ll", "ll l- ll", "ll s- ll", "ll s- ll", "ll s- ll", "ss s- ll", "ss s- ll", "ss s- ss"}},
	)
}

// P10.1, P10.2: numbers follow the commits, so a snapshot does not see a transaction that began ahead of those that it sees, and is committed later; nor anything of what is aborted.
func TestOrderOfCommits(t *testing.T) {
	perform(t, 0,
		scene{"b0 b0 b0 b0", []string{"----"}},
		scene{"c4", []string{"---l", "---s"}},
		scene{"c2", []string{"-l-l", "-l-s", "-s-s"}},
		scene{"a3", []string{"-l-l", "-l-s", "-s-s", "-s-s"}},
		scene{"c1", []string{"ll-l", "ll-s", "ls-s", "ls-s", "ss-s"}},
	)
}

// P10.2, P10.4: viewers as a top one see it from its Begin on, and what begins below it, behind the commit, too; of the others they see what was committed when they were taken.
func TestOwnSnapshots(t *testing.T) {
	perform(t, 2,
		scene{"b0", []string{"-"}},
		scene{"b0", []string{"-o", "-o"}},
		scene{"b2 b1", []string{"-o o-", "-o o-", "-o o-"}},
		scene{"c1", []string{"lo ol", "lo ol", "lo ol", "so os"}},
		scene{"b3", []string{"lo ol o", "lo ol o", "lo ol o", "so os o", "so os o"}},
		scene{"c3", []string{"lo ol o", "lo ol o", "lo ol o", "so os o", "so os o", "so os o"}},
		scene{"c2", []string{"lo ol o", "lo ol o", "lo ol o", "so os o", "so os o", "so os o", "so os o"}},
	)
}

// P10.4: an Abort of one of the viewer's own takes it away, and what is below it, and leaves the others.
func TestAbortOfOwn(t *testing.T) {
	const tree = "b0 b1 b2 b3 b2 b1 b0 b7 "
	for _, c := range []struct{ steps, want string }{
		{"", "oooooo --"},
		{"a4", "ooo-oo --"},
		{"a3", "oo--oo --"},
		{"c4 a3", "oo--oo --"},
		{"a2", "o----o --"},
		{"c3 a2", "o----o --"},
		{"a5 c2", "oooo-o --"},
		{"a6", "ooooo- --"},
		{"a1", "------ --"},
		{"c2 a1", "------ --"},
		{"a8 a7", "oooooo --"},
		{"c7", "oooooo ll"},
		{"c1", "oooooo --"},
		{"a4 a6 c1", "ooo-o- --"},
	} {
		x := tableOf(t, tree+c.steps)
		for _, at := range []int{math.MinInt, -1, 0} {
			check(t, snap.Viewer{At: at, Me: 1}, x, c.want)
		}
		for _, at := range []int{1, 2, math.MaxInt} {
			check(t, snap.Viewer{At: at, Me: 1}, x, strings.ReplaceAll(c.want, "l", "s"))
		}
	}
}

// P10.4: those of another Me are not the viewer's own: not while they run, nor when they have committed.
func TestOthers(t *testing.T) {
	x := tableOf(t, "b0 b0 b1 b2 b3")
	check(t, snap.Now(x, 1), x, "o-o-o")
	check(t, snap.Now(x, 2), x, "-o-o-")
	first, second := snap.Now(x, 1), snap.Now(x, 2)
	play(t, x, "c1")
	check(t, first, x, "o-o-o")
	check(t, second, x, "lolol")
	check(t, snap.Now(x, 2), x, "sosos")
	play(t, x, "a2")
	check(t, first, x, "o-o-o")
	check(t, second, x, "l-l-l")
	check(t, snap.Now(x, 2), x, "s-s-s")
}

// P10.1: a viewer is a value: its calls, kept as functions, are those of the viewer as it was; and viewers that are alike answer alike.
func TestValue(t *testing.T) {
	x := tableOf(t, "b0 c1 b0 c2 b0")
	v := snap.Viewer{At: 1, Me: 3}
	own, sees, later := v.Own, v.Sees, v.Later
	v.At, v.Me = 0, 0
	if !own(x, 3) || !sees(x, 1) || sees(x, 2) || !later(x, 2) || later(x, 1) {
		t.Error("the viewer as it was")
	}
	check(t, v, x, "ll-")
	if snap.Now(x, 7) != (snap.Viewer{At: 2, Me: 7}) || look(snap.Viewer{At: 2, Me: 3}, x) != look(snap.Now(x, 3), x) {
		t.Error("viewers that are alike")
	}
}

// P10.1: who asks changes nothing in the table; and a viewer is held against the table that it is given, whichever it was taken from.
func TestTables(t *testing.T) {
	x := mixture(t)
	y := x.Copy()
	var marks []string
	for range 2 {
		s := ""
		for _, me := range append(nowhere(x.Len()), 1, 2, 6) {
			for _, at := range numbers(x.Last()) {
				s += look(snap.Viewer{At: at, Me: me}, x)
			}
		}
		marks = append(marks, s)
	}
	if marks[0] != marks[1] || x.Len() != y.Len() || x.Last() != y.Last() {
		t.Error("asked twice")
	}
	for id := 1; id <= y.Len(); id++ {
		if x.State(id) != y.State(id) || x.Top(id) != y.Top(id) || x.Number(id) != y.Number(id) || x.Counts(id) != y.Counts(id) {
			t.Error("changed:", id)
		}
	}
	v := snap.Now(x, 19)
	play(t, x, "c6 c19")
	play(t, y, "a19")
	check(t, v, x, "ss-s- lll-l- --- ss s- o")
	check(t, v, y, "ss-s- ------ --- ss s- -")
	check(t, v, xid.New(), "")
	check(t, v, nil, "")
}

// P10.1, P10.4: below one another as deep as may be.
func TestDeep(t *testing.T) {
	const depth = 1 << 16
	x := tableOf(t, "b0 c1")
	old := snap.Now(x, 0)
	for i := range depth {
		parent := 1 + i
		if i == 0 {
			parent = 0
		}
		if id, e := x.Begin(parent); id != i+2 || e != api.OK {
			t.Fatal("Begin:", id, e)
		}
	}
	me := snap.Now(x, 2)
	all := func(v snap.Viewer, want byte) {
		t.Helper()
		for id := 2; id <= depth+1; id++ {
			if mark(v, x, id) != want {
				t.Fatalf("%v: %d: %c, want %c", v, id, mark(v, x, id), want)
			}
		}
	}
	all(me, 'o')
	all(old, '-')
	if x.Abort(depth/2) != api.OK || x.Commit(2) != api.OK {
		t.Fatal("Abort, Commit")
	}
	gone := strings.Repeat("-", depth+2-depth/2)
	for v, c := range map[snap.Viewer]string{me: "o", old: "l", snap.Now(x, 0): "s"} {
		got := make([]byte, 0, depth)
		for id := 2; id <= depth+1; id++ {
			got = append(got, mark(v, x, id))
		}
		if string(got) != strings.Repeat(c, depth/2-2)+gone {
			t.Errorf("%v: %d of %s", v, strings.Count(string(got), c), c)
		}
	}
}

// P10.1, P10.3: very many commits, in an order of their own: each snapshot sees those up to its own number.
func TestWide(t *testing.T) {
	const width = 1 << 10
	x := xid.New()
	for range width {
		if _, e := x.Begin(0); e != api.OK {
			t.Fatal(e)
		}
	}
	var order []int
	snapshots := []snap.Viewer{snap.Now(x, 0)}
	for i := range width {
		order = append(order, 1+i*637%width)
		if x.Commit(order[i]) != api.OK {
			t.Fatal("Commit of", order[i])
		}
		snapshots = append(snapshots, snap.Now(x, 0))
	}
	if s := slices.Sorted(slices.Values(order)); s[0] != 1 || s[width-1] != width || len(slices.Compact(s)) != width {
		t.Fatal("the order")
	}
	for n, v := range snapshots {
		for i, id := range order {
			want := byte('l')
			if i < n {
				want = 's'
			}
			if mark(v, x, id) != want {
				t.Fatalf("%v: %d: %c, want %c", v, id, mark(v, x, id), want)
			}
		}
	}
}
