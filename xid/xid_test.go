package xid_test

import (
	"math"
	"strconv"
	"testing"

	"covenant/api"
	"covenant/xid"
)

// nowhere are IDs, other than 0, that none of n transactions has.
func nowhere(n int) []int {
	return []int{-1, -2, -max(n, 1), -n - 1, math.MinInt, math.MinInt + 1, n + 1, n + 2, 2*n + 1, n + 1<<32, math.MaxInt}
}

// tell is a table as a text: how many numbers were assigned, and of each transaction its state, its top one, its number, and a mark if it does not count.
func tell(x *xid.Table) string {
	s := strconv.Itoa(x.Last())
	for id := 1; id <= x.Len(); id++ {
		s += " " + string("-RDG"[x.State(id)&3]) + strconv.Itoa(x.Top(id))
		if n := x.Number(id); n != 0 {
			s += "=" + strconv.Itoa(n)
		}
		if !x.Counts(id) {
			s += "!"
		}
	}
	return s
}

// checkNone checks that there is no such transaction.
func checkNone(t *testing.T, x *xid.Table, id int) {
	t.Helper()
	if x.State(id) != 0 || x.Top(id) != 0 || x.Number(id) != 0 || x.Counts(id) {
		t.Errorf("State, Top, Number, Counts of %d = %d, %d, %d, %v", id, x.State(id), x.Top(id), x.Number(id), x.Counts(id))
	}
}

// check checks what all calls that change nothing answer.
func check(t *testing.T, x *xid.Table, want string) {
	t.Helper()
	if got := tell(x); got != want {
		t.Errorf("got  %s\nwant %s", got, want)
	}
	for _, id := range append(nowhere(x.Len()), 0) {
		checkNone(t, x, id)
	}
}

// step is a call of one of those that change a table.
type step struct {
	do string
	id int
}

// run does a step; a Begin that is not refused is to answer the next ID, and one that is refused 0.
func run(t *testing.T, x *xid.Table, s step) api.Errno {
	t.Helper()
	switch s.do {
	case "commit":
		return x.Commit(s.id)
	case "abort":
		return x.Abort(s.id)
	}
	want := x.Len() + 1
	id, e := x.Begin(s.id)
	if e != api.OK {
		want = 0
	}
	if id != want {
		t.Errorf("Begin(%d) = %d, %d, want %d", s.id, id, e, want)
	}
	return e
}

// line is a step of a story, what it is answered, and how the table is then.
type line struct {
	do   string
	id   int
	e    api.Errno
	want string
}

// play does the steps of a story, on a table that is as it was left, and checks it after each of them.
func play(t *testing.T, x *xid.Table, story ...line) {
	t.Helper()
	for i, l := range story {
		if e := run(t, x, step{l.do, l.id}); e != l.e {
			t.Errorf("line %d: %s %d: %d, want %d", i+1, l.do, l.id, e, l.e)
		}
		check(t, x, l.want)
		if t.Failed() {
			t.Fatalf("line %d: %s %d", i+1, l.do, l.id)
		}
	}
}

// tableOf is a table on which steps were done, none of which may be refused.
func tableOf(t *testing.T, steps ...step) *xid.Table {
	t.Helper()
	x := xid.New()
	for _, s := range steps {
		if e := run(t, x, s); e != api.OK {
			t.Fatalf("%s %d: %d", s.do, s.id, e)
		}
	}
	return x
}

// P9.1, P9.2: the states are 1, 2 and 3.
func TestStates(t *testing.T) {
	if xid.Running != 1 || xid.Done != 2 || xid.Gone != 3 {
		t.Error(xid.Running, xid.Done, xid.Gone)
	}
}

// P9.1, P9.2: a new table has no transactions, and each is another one.
func TestNew(t *testing.T) {
	other := xid.New()
	for _, x := range []*xid.Table{xid.New(), xid.New().Copy(), {}} {
		if x == nil {
			t.Fatal("nil")
		}
		check(t, x, "0")
		for _, id := range append(nowhere(0), 0) {
			if e := x.Commit(id); e != api.ErrNone {
				t.Errorf("Commit(%d) = %d", id, e)
			}
			if e := x.Abort(id); e != api.ErrNone {
				t.Errorf("Abort(%d) = %d", id, e)
			}
		}
		for _, id := range nowhere(0) {
			if got, e := x.Begin(id); got != 0 || e != api.ErrNone {
				t.Errorf("Begin(%d) = %d, %d", id, got, e)
			}
		}
		play(t, x, line{"begin", 1, api.ErrNone, "0"}, line{"begin", 0, api.OK, "0 R1"})
	}
	check(t, other, "0")
}

// P9.1, P9.2: of nil each call answers nothing, or ErrNil, before it asks for the ID.
func TestNil(t *testing.T) {
	var x *xid.Table
	for _, id := range append(nowhere(0), 0, 1, 2) {
		checkNone(t, x, id)
		if got, e := x.Begin(id); got != 0 || e != api.ErrNil {
			t.Errorf("Begin(%d) = %d, %d", id, got, e)
		}
		if e := x.Commit(id); e != api.ErrNil {
			t.Errorf("Commit(%d) = %d", id, e)
		}
		if e := x.Abort(id); e != api.ErrNil {
			t.Errorf("Abort(%d) = %d", id, e)
		}
	}
	if x.Last() != 0 || x.Len() != 0 || x.Copy() != nil {
		t.Error("Last, Len, Copy:", x.Last(), x.Len(), x.Copy())
	}
}

// P9.1, P9.2: the chapter's example.
func TestExample(t *testing.T) {
	play(t, xid.New(),
		line{"begin", 0, api.OK, "0 R1"},
		line{"begin", 1, api.OK, "0 R1 R1"},
		line{"begin", 2, api.OK, "0 R1 R1 R1"},
		line{"commit", 3, api.OK, "0 R1 R1 D1"},
		line{"abort", 2, api.OK, "0 R1 G1! G1!"},
		line{"begin", 2, api.ErrState, "0 R1 G1! G1!"},
		line{"commit", 1, api.OK, "1 D1=1 G1! G1!"},
		line{"begin", 0, api.OK, "1 D1=1 G1! G1! R4"},
		line{"commit", 4, api.OK, "2 D1=1 G1! G1! D4=2"},
		line{"commit", 4, api.ErrState, "2 D1=1 G1! G1! D4=2"},
		line{"begin", 9, api.ErrNone, "2 D1=1 G1! G1! D4=2"},
	)
}

// P9.1, P9.2: what begins is Running, has the next ID, and the top one of its parent, however deep that is.
func TestBegin(t *testing.T) {
	play(t, xid.New(),
		line{"begin", 0, api.OK, "0 R1"},
		line{"begin", 0, api.OK, "0 R1 R2"},
		line{"begin", 2, api.OK, "0 R1 R2 R2"},
		line{"begin", 1, api.OK, "0 R1 R2 R2 R1"},
		line{"begin", 3, api.OK, "0 R1 R2 R2 R1 R2"},
		line{"begin", 0, api.OK, "0 R1 R2 R2 R1 R2 R6"},
		line{"begin", 5, api.OK, "0 R1 R2 R2 R1 R2 R6 R2"},
		line{"begin", 2, api.OK, "0 R1 R2 R2 R1 R2 R6 R2 R2"},
		line{"begin", 1, api.OK, "0 R1 R2 R2 R1 R2 R6 R2 R2 R1"},
	)
}

// mixture is a table with transactions of all states: top ones, and some below them.
func mixture(t *testing.T) *xid.Table {
	t.Helper()
	x := tableOf(t,
		step{"begin", 0}, step{"begin", 0}, step{"begin", 0},
		step{"begin", 1}, step{"begin", 1}, step{"begin", 1},
		step{"begin", 2}, step{"begin", 3},
		step{"commit", 2}, step{"abort", 3}, step{"commit", 5}, step{"abort", 6})
	check(t, x, mixed)
	return x
}

const mixed = "1 R1 D2=1 G3! R1 D1 G1! D2=1 G3!"

// checkRefused checks that a step is refused, and that it changes nothing.
func checkRefused(t *testing.T, s step, want api.Errno) {
	t.Helper()
	x := mixture(t)
	if e := run(t, x, s); e != want {
		t.Errorf("%s %d: %d, want %d", s.do, s.id, e, want)
	}
	check(t, x, mixed)
	play(t, x, line{"begin", 4, api.OK, mixed + " R1"}, line{"commit", 1, api.OK, "2 D1=2 D2=1 G3! D1=2 D1=2 G1! D2=1 G3! D1=2"})
}

// P9.1: where there is no such transaction, a step is ErrNone; one that is Done or Gone is ErrState.
func TestRefused(t *testing.T) {
	for _, do := range []string{"begin", "commit", "abort"} {
		for _, id := range nowhere(8) {
			checkRefused(t, step{do, id}, api.ErrNone)
		}
		for _, id := range []int{2, 3, 5, 6, 7, 8} {
			checkRefused(t, step{do, id}, api.ErrState)
		}
	}
	checkRefused(t, step{"commit", 0}, api.ErrNone)
	checkRefused(t, step{"abort", 0}, api.ErrNone)
}

// P9.1, P9.2: below one that is committed in the middle, what is Running is Done, and all else is as it was; it has no number until its top one has one.
func TestCommitInTheMiddle(t *testing.T) {
	x := tableOf(t,
		step{"begin", 0},                                     // 1
		step{"begin", 1}, step{"begin", 1}, step{"begin", 1}, // 2, 3, 4
		step{"begin", 3}, step{"begin", 3}, step{"begin", 3}, // 5, 6, 7: Running, Done, Gone
		step{"begin", 5}, step{"begin", 5}, step{"begin", 5}, // 8, 9, 10: Running, Done, Gone
		step{"begin", 6}, step{"begin", 6}, step{"begin", 7}, // 11, 12, 13: Done, Gone, Gone
		step{"begin", 2}, step{"begin", 4}, // 14, 15
		step{"abort", 12}, step{"commit", 6}, step{"abort", 7}, step{"commit", 9}, step{"abort", 10})
	play(t, x,
		line{"commit", 99, api.ErrNone, "0 R1 R1 R1 R1 R1 D1 G1! R1 D1 G1! D1 G1! G1! R1 R1"},
		line{"commit", 3, api.OK, "0 R1 R1 D1 R1 D1 D1 G1! D1 D1 G1! D1 G1! G1! R1 R1"},
		line{"commit", 3, api.ErrState, "0 R1 R1 D1 R1 D1 D1 G1! D1 D1 G1! D1 G1! G1! R1 R1"},
		line{"abort", 5, api.ErrState, "0 R1 R1 D1 R1 D1 D1 G1! D1 D1 G1! D1 G1! G1! R1 R1"},
		line{"begin", 8, api.ErrState, "0 R1 R1 D1 R1 D1 D1 G1! D1 D1 G1! D1 G1! G1! R1 R1"},
		line{"abort", 4, api.OK, "0 R1 R1 D1 G1! D1 D1 G1! D1 D1 G1! D1 G1! G1! R1 G1!"},
		line{"commit", 1, api.OK, "1 D1=1 D1=1 D1=1 G1! D1=1 D1=1 G1! D1=1 D1=1 G1! D1=1 G1! G1! D1=1 G1!"},
	)
}

// P9.1, P9.3, P9.6: below one that is aborted in the middle, what is Running or Done is Gone, and all else is as it was.
func TestAbortInTheMiddle(t *testing.T) {
	x := tableOf(t,
		step{"begin", 0}, step{"begin", 0}, // 1, 2
		step{"begin", 1}, step{"begin", 1}, step{"begin", 2}, // 3, 4, 5
		step{"begin", 3}, step{"begin", 3}, step{"begin", 3}, // 6, 7, 8: Running, Done, Gone
		step{"begin", 6}, step{"begin", 7}, step{"begin", 8}, // 9, 10, 11: Done, Done, Gone
		step{"begin", 9}, step{"begin", 4}, // 12, 13
		step{"commit", 9}, step{"commit", 7}, step{"abort", 8}, step{"commit", 13})
	play(t, x,
		line{"abort", 0, api.ErrNone, "0 R1 R2 R1 R1 R2 R1 D1 G1! D1 D1 G1! D1 D1"},
		line{"abort", 3, api.OK, "0 R1 R2 G1! R1 R2 G1! G1! G1! G1! G1! G1! G1! D1"},
		line{"abort", 3, api.ErrState, "0 R1 R2 G1! R1 R2 G1! G1! G1! G1! G1! G1! G1! D1"},
		line{"commit", 12, api.ErrState, "0 R1 R2 G1! R1 R2 G1! G1! G1! G1! G1! G1! G1! D1"},
		line{"begin", 7, api.ErrState, "0 R1 R2 G1! R1 R2 G1! G1! G1! G1! G1! G1! G1! D1"},
		line{"begin", 4, api.OK, "0 R1 R2 G1! R1 R2 G1! G1! G1! G1! G1! G1! G1! D1 R1"},
		line{"commit", 1, api.OK, "1 D1=1 R2 G1! D1=1 R2 G1! G1! G1! G1! G1! G1! G1! D1=1 D1=1"},
		line{"abort", 2, api.OK, "1 D1=1 G2! G1! D1=1 G2! G1! G1! G1! G1! G1! G1! G1! D1=1 D1=1"},
	)
}

// P9.1, P9.3: a top one is aborted behind commits below it, several deep: all of them are Gone, and no number is assigned.
func TestAbortBehindCommits(t *testing.T) {
	play(t, xid.New(),
		line{"begin", 0, api.OK, "0 R1"},
		line{"begin", 1, api.OK, "0 R1 R1"},
		line{"begin", 2, api.OK, "0 R1 R1 R1"},
		line{"begin", 3, api.OK, "0 R1 R1 R1 R1"},
		line{"commit", 3, api.OK, "0 R1 R1 D1 D1"},
		line{"begin", 2, api.OK, "0 R1 R1 D1 D1 R1"},
		line{"commit", 2, api.OK, "0 R1 D1 D1 D1 D1"},
		line{"begin", 1, api.OK, "0 R1 D1 D1 D1 D1 R1"},
		line{"begin", 0, api.OK, "0 R1 D1 D1 D1 D1 R1 R7"},
		line{"abort", 1, api.OK, "0 G1! G1! G1! G1! G1! G1! R7"},
		line{"commit", 1, api.ErrState, "0 G1! G1! G1! G1! G1! G1! R7"},
		line{"commit", 7, api.OK, "1 G1! G1! G1! G1! G1! G1! D7=1"},
	)
}

// P9.1, P9.4: numbers follow the order of the commits, not that of the begins, and none is lost by what is aborted between them, or by what is committed below a top one.
func TestNumbers(t *testing.T) {
	play(t, tableOf(t, step{"begin", 0}, step{"begin", 0}, step{"begin", 0}, step{"begin", 0}, step{"begin", 0}, step{"begin", 3}, step{"begin", 1}),
		line{"commit", 4, api.OK, "1 R1 R2 R3 D4=1 R5 R3 R1"},
		line{"abort", 5, api.OK, "1 R1 R2 R3 D4=1 G5! R3 R1"},
		line{"commit", 6, api.OK, "1 R1 R2 R3 D4=1 G5! D3 R1"},
		line{"commit", 5, api.ErrState, "1 R1 R2 R3 D4=1 G5! D3 R1"},
		line{"abort", 4, api.ErrState, "1 R1 R2 R3 D4=1 G5! D3 R1"},
		line{"commit", 2, api.OK, "2 R1 D2=2 R3 D4=1 G5! D3 R1"},
		line{"abort", 7, api.OK, "2 R1 D2=2 R3 D4=1 G5! D3 G1!"},
		line{"commit", 1, api.OK, "3 D1=3 D2=2 R3 D4=1 G5! D3 G1!"},
		line{"begin", 0, api.OK, "3 D1=3 D2=2 R3 D4=1 G5! D3 G1! R8"},
		line{"abort", 8, api.OK, "3 D1=3 D2=2 R3 D4=1 G5! D3 G1! G8!"},
		line{"commit", 3, api.OK, "4 D1=3 D2=2 D3=4 D4=1 G5! D3=4 G1! G8!"},
		line{"begin", 0, api.OK, "4 D1=3 D2=2 D3=4 D4=1 G5! D3=4 G1! G8! R9"},
		line{"commit", 9, api.OK, "5 D1=3 D2=2 D3=4 D4=1 G5! D3=4 G1! G8! D9=5"},
	)
}

// P9.1, P9.2, P9.6: what is committed below one that is aborted later is Gone; what is Gone below one that is committed does not count.
func TestDoneBelowGone(t *testing.T) {
	play(t, tableOf(t, step{"begin", 0}, step{"begin", 1}, step{"begin", 2}, step{"begin", 3}, step{"begin", 2}),
		line{"abort", 5, api.OK, "0 R1 R1 R1 R1 G1!"},
		line{"commit", 4, api.OK, "0 R1 R1 R1 D1 G1!"},
		line{"commit", 2, api.OK, "0 R1 D1 D1 D1 G1!"},
		line{"begin", 1, api.OK, "0 R1 D1 D1 D1 G1! R1"},
		line{"begin", 6, api.OK, "0 R1 D1 D1 D1 G1! R1 R1"},
		line{"commit", 7, api.OK, "0 R1 D1 D1 D1 G1! R1 D1"},
		line{"abort", 6, api.OK, "0 R1 D1 D1 D1 G1! G1! G1!"},
		line{"commit", 1, api.OK, "1 D1=1 D1=1 D1=1 D1=1 G1! G1! G1!"},
		line{"abort", 1, api.ErrState, "1 D1=1 D1=1 D1=1 D1=1 G1! G1! G1!"},
		line{"abort", 2, api.ErrState, "1 D1=1 D1=1 D1=1 D1=1 G1! G1! G1!"},
	)
}

// P9.2, P9.8: steps on a copy are not visible in what was copied, nor the other way round; both go on as if they were alone.
func TestCopy(t *testing.T) {
	x := mixture(t)
	y := x.Copy()
	check(t, y, mixed)
	play(t, y, line{"begin", 1, api.OK, mixed + " R1"})
	check(t, x, mixed)
	play(t, x, line{"begin", 0, api.OK, mixed + " R9"})
	check(t, y, mixed+" R1")
	play(t, y, line{"commit", 9, api.OK, mixed + " D1"})
	check(t, x, mixed+" R9")
	play(t, y, line{"abort", 4, api.OK, "1 R1 D2=1 G3! G1! D1 G1! D2=1 G3! D1"})
	check(t, x, mixed+" R9")
	play(t, x, line{"commit", 1, api.OK, "2 D1=2 D2=1 G3! D1=2 D1=2 G1! D2=1 G3! R9"})
	check(t, y, "1 R1 D2=1 G3! G1! D1 G1! D2=1 G3! D1")
	play(t, y, line{"abort", 1, api.OK, "1 G1! D2=1 G3! G1! G1! G1! D2=1 G3! G1!"})
	check(t, x, "2 D1=2 D2=1 G3! D1=2 D1=2 G1! D2=1 G3! R9")
}

// P9.2, P9.8: a copy of a copy is as independent, of the first table, too.
func TestCopyOfCopy(t *testing.T) {
	x := mixture(t)
	y := x.Copy()
	z := y.Copy()
	check(t, z, mixed)
	play(t, z, line{"abort", 1, api.OK, "1 G1! D2=1 G3! G1! G1! G1! D2=1 G3!"})
	check(t, x, mixed)
	check(t, y, mixed)
	play(t, y, line{"commit", 4, api.OK, "1 R1 D2=1 G3! D1 D1 G1! D2=1 G3!"})
	check(t, x, mixed)
	play(t, x, line{"begin", 4, api.OK, mixed + " R1"})
	play(t, z, line{"begin", 0, api.OK, "1 G1! D2=1 G3! G1! G1! G1! D2=1 G3! R9"})
	check(t, y, "1 R1 D2=1 G3! D1 D1 G1! D2=1 G3!")
	play(t, x, line{"commit", 1, api.OK, "2 D1=2 D2=1 G3! D1=2 D1=2 G1! D2=1 G3! D1=2"})
	check(t, z, "1 G1! D2=1 G3! G1! G1! G1! D2=1 G3! R9")
}

// P9.2, P9.8: a copy of a table without transactions is another one; that of nil is nil.
func TestCopyOfNone(t *testing.T) {
	x := xid.New()
	y := x.Copy()
	z := y.Copy()
	play(t, y, line{"begin", 0, api.OK, "0 R1"}, line{"commit", 1, api.OK, "1 D1=1"})
	check(t, x, "0")
	check(t, z, "0")
	play(t, x, line{"begin", 0, api.OK, "0 R1"}, line{"abort", 1, api.OK, "0 G1!"})
	check(t, y, "1 D1=1")
	check(t, z, "0")
	var none *xid.Table
	if none.Copy() != nil || none.Copy().Copy() != nil {
		t.Error("a copy of nil")
	}
}

// P9.1, P9.7: below one another as deep as may be, and ended one by one from the innermost on, then all at once.
func TestDeep(t *testing.T) {
	const depth = 1 << 16
	x := xid.New()
	for i := range depth {
		if id, e := x.Begin(i); id != i+1 || e != api.OK || x.Top(id) != 1 {
			t.Fatal("Begin:", id, e)
		}
	}
	y := x.Copy()
	for id := depth; id > 1; id-- {
		if x.Commit(id) != api.OK || x.State(id) != xid.Done || x.State(id-1) != xid.Running || x.Number(id) != 0 {
			t.Fatal("Commit of", id)
		}
	}
	if x.Commit(1) != api.OK || y.Abort(1) != api.OK {
		t.Fatal("Commit, Abort of 1")
	}
	for id := 1; id <= depth; id++ {
		if x.State(id) != xid.Done || x.Number(id) != 1 || !x.Counts(id) || y.State(id) != xid.Gone || y.Number(id) != 0 || y.Counts(id) {
			t.Fatal("of", id, tell(x)[:10], tell(y)[:10])
		}
	}
}

// P9.1, P9.6: side by side, very many: each third is aborted, each third is committed, then the top one.
func TestWide(t *testing.T) {
	const width = 1 << 18
	x := tableOf(t, step{"begin", 0}, step{"begin", 0})
	for id := 3; id <= width; id++ {
		if got, e := x.Begin(1 + id%2); got != id || e != api.OK {
			t.Fatal("Begin:", got, e)
		}
		if id%3 == 0 && x.Abort(id) != api.OK || id%3 == 1 && x.Commit(id) != api.OK {
			t.Fatal("of", id)
		}
	}
	if x.Commit(2) != api.OK || x.Abort(1) != api.OK {
		t.Fatal("Commit, Abort")
	}
	for id := 3; id <= width; id++ {
		gone := id%3 == 0 || id%2 == 0
		if x.Counts(id) == gone || (x.State(id) == xid.Done) == gone || (x.Number(id) == 1) == gone {
			t.Fatal("of", id, x.State(id), x.Number(id), x.Counts(id))
		}
	}
}
