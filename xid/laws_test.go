package xid_test

import (
	"slices"
	"testing"

	"covenant/api"
	"covenant/xid"
)

// words is a table as the chapter's words have it: each thing is asked of all transactions, one by one.
type words struct {
	parents, numbers []int
	states           []uint8
	last             int
}

func (w *words) has(id int) bool { return id >= 1 && id <= len(w.states) }

func (w *words) state(id int) uint8 { return w.states[id-1] }

// above reports whether one is below another one.
func (w *words) above(upper, id int) bool {
	parent := w.parents[id-1]
	return parent != 0 && (parent == upper || w.above(upper, parent))
}

func (w *words) top(id int) int {
	for w.parents[id-1] != 0 {
		id = w.parents[id-1]
	}
	return id
}

func (w *words) counts(id int) bool {
	for upper := range len(w.states) {
		if (upper+1 == id || w.above(upper+1, id)) && w.states[upper] == xid.Gone {
			return false
		}
	}
	return true
}

func (w *words) number(id int) int {
	if !w.counts(id) || w.state(w.top(id)) != xid.Done {
		return 0
	}
	return w.numbers[w.top(id)-1]
}

// end gives a transaction a state, and each one below it that is in one of some.
func (w *words) end(id int, state uint8, some ...uint8) {
	for lower := range len(w.states) {
		if lower+1 == id || w.above(id, lower+1) && slices.Contains(some, w.state(lower+1)) {
			w.states[lower] = state
		}
	}
}

// run does a step, and answers what it is to be answered.
func (w *words) run(s step) api.Errno {
	switch {
	case s.do == "begin" && s.id == 0:
	case !w.has(s.id):
		return api.ErrNone
	case w.state(s.id) != xid.Running:
		return api.ErrState
	}
	switch s.do {
	case "begin":
		w.parents, w.numbers, w.states = append(w.parents, s.id), append(w.numbers, 0), append(w.states, xid.Running)
	case "commit":
		w.end(s.id, xid.Done, xid.Running)
		if w.parents[s.id-1] == 0 {
			w.last++
			w.numbers[s.id-1] = w.last
		}
	case "abort":
		w.end(s.id, xid.Gone, xid.Running, xid.Done)
	}
	return api.OK
}

func (w *words) copy() *words {
	return &words{slices.Clone(w.parents), slices.Clone(w.numbers), slices.Clone(w.states), w.last}
}

// checkWords checks that a table is as the words have it.
func checkWords(t *testing.T, x *xid.Table, w *words) {
	t.Helper()
	if x.Last() != w.last || x.Len() != len(w.states) {
		t.Fatalf("Last, Len = %d, %d, want %d, %d", x.Last(), x.Len(), w.last, len(w.states))
	}
	for id := 1; id <= x.Len(); id++ {
		if x.State(id) != w.state(id) || x.Top(id) != w.top(id) || x.Number(id) != w.number(id) || x.Counts(id) != w.counts(id) {
			t.Fatalf("of %d, parents %v: %s", id, w.parents, tell(x))
		}
	}
	for _, id := range append(nowhere(x.Len()), 0) {
		checkNone(t, x, id)
	}
}

// change is a step that was done: how the table was, how it is, and the parents of all.
type change struct {
	step
	was, is *xid.Table
	parents []int
}

// below reports whether one is below another one.
func (c change) below(id, upper int) bool {
	for id = c.parents[id-1]; id != 0; id = c.parents[id-1] {
		if id == upper {
			return true
		}
	}
	return false
}

// ids are the IDs of all that there were.
func (c change) ids() []int {
	var ids []int
	for id := 1; id <= c.was.Len(); id++ {
		ids = append(ids, id)
	}
	return ids
}

// changes calls f with each step of each row of so many steps, none of which is refused; and behind each step, it tries all those that are refused.
func changes(t *testing.T, length int, f func(c change)) {
	t.Helper()
	var from func(x *xid.Table, w *words, left int)
	from = func(x *xid.Table, w *words, left int) {
		if left == 0 {
			return
		}
		for id := -1; id <= len(w.states)+1; id++ {
			for _, do := range []string{"begin", "commit", "abort"} {
				s, y, v := step{do, id}, x.Copy(), w.copy()
				want := v.run(s)
				if e := run(t, y, s); e != want {
					t.Fatalf("%s %d on %s: %d, want %d", do, id, tell(x), e, want)
				}
				checkWords(t, y, v)
				if want != api.OK {
					continue
				}
				f(change{s, x, y, v.parents})
				from(y, v, left-1)
			}
		}
	}
	from(xid.New(), &words{}, length)
}

// random is a row of numbers that always is the same.
type random uint64

// below is a number from 0 on, less than n.
func (r *random) below(n int) int {
	*r = *r*6364136223846793005 + 1442695040888963407
	return int(uint64(*r) >> 33 % uint64(n))
}

// longRows calls f with each step of some long rows of steps, in which the ones most likely to be Running are the last ones.
func longRows(t *testing.T, f func(c change)) {
	t.Helper()
	for seed := range 40 {
		r := random(seed)
		x, w := xid.New(), &words{}
		for range 150 {
			do := []string{"begin", "begin", "begin", "commit", "abort"}[r.below(5)]
			s := step{do, len(w.states) + 1 - r.below(min(len(w.states)+2, 3+seed))}
			was := x.Copy()
			want := w.run(s)
			if e := run(t, x, s); e != want {
				t.Fatalf("%s %d on %s: %d, want %d", s.do, s.id, tell(was), e, want)
			}
			checkWords(t, x, w)
			f(change{s, was, x, w.parents})
		}
	}
}

// everyChange calls f with the steps of short rows, all that there are, and of long ones.
func everyChange(t *testing.T, f func(c change)) {
	t.Helper()
	changes(t, 6, f)
	longRows(t, f)
}

// P9.1, P9.2: after each step of each row, a table is as the chapter's words have it; a step that is refused changes nothing.
func TestWords(t *testing.T) {
	done := 0
	changes(t, 7, func(c change) { done++ })
	longRows(t, func(c change) { done++ })
	if done < 50000 {
		t.Error("steps:", done)
	}
}

// P9.3: what is Done or Gone stays so, but what is Done below one that is aborted; what has committed keeps its number.
func TestPermanence(t *testing.T) {
	everyChange(t, func(c change) {
		for _, id := range c.ids() {
			was, is := c.was.State(id), c.is.State(id)
			aborted := c.do == "abort" && was == xid.Done && is == xid.Gone && c.below(id, c.id)
			if was != xid.Running && was != is && !aborted {
				t.Fatalf("%s %d: the state of %d: %s, %s", c.do, c.id, id, tell(c.was), tell(c.is))
			}
			if n := c.was.Number(id); n != 0 && c.is.Number(id) != n {
				t.Fatalf("%s %d: the number of %d: %s, %s", c.do, c.id, id, tell(c.was), tell(c.is))
			}
		}
	})
}

// P9.4: each number is that of one top one, the greatest of the one that was committed last; no other one has a number that its top one does not have.
func TestOrder(t *testing.T) {
	everyChange(t, func(c change) {
		tops := map[int]int{}
		for id := range c.is.Len() + 1 {
			n := c.is.Number(id)
			if n != 0 && n != c.is.Number(c.is.Top(id)) {
				t.Fatalf("the number of %d: %s", id, tell(c.is))
			}
			if n != 0 && c.is.Top(id) == id {
				tops[n]++
			}
		}
		for n := 1; n <= c.is.Last(); n++ {
			if tops[n] != 1 {
				t.Fatalf("the number %d: %s", n, tell(c.is))
			}
		}
		first := c.do == "commit" && c.was.State(c.id) == xid.Running && c.was.Top(c.id) == c.id
		if first && (c.is.Number(c.id) != c.was.Last()+1 || c.is.Last() != c.was.Last()+1) || !first && c.is.Last() != c.was.Last() || len(tops) != c.is.Last() {
			t.Fatalf("%s %d: %s, %s", c.do, c.id, tell(c.was), tell(c.is))
		}
	})
}

// P9.5: one that counts is below only ones that count; below one that is not Running none is Running; what is below one has its top one.
func TestBelow(t *testing.T) {
	everyChange(t, func(c change) {
		for i, parent := range c.parents {
			id := i + 1
			if parent == 0 {
				if c.is.Top(id) != id {
					t.Fatalf("the top one of %d: %s", id, tell(c.is))
				}
				continue
			}
			if c.is.Counts(id) && !c.is.Counts(parent) || c.is.State(id) == xid.Running && c.is.State(parent) != xid.Running || c.is.Top(id) != c.is.Top(parent) {
				t.Fatalf("%d below %d: %s", id, parent, tell(c.is))
			}
		}
	})
}

// same reports whether calls about a transaction answer the same of it as before.
func (c change) same(id int) bool {
	return c.was.State(id) == c.is.State(id) && c.was.Top(id) == c.is.Top(id) && c.was.Number(id) == c.is.Number(id) && c.was.Counts(id) == c.is.Counts(id)
}

// P9.6: after Abort neither it nor what is below it counts; all others are unchanged.
func TestAborted(t *testing.T) {
	everyChange(t, func(c change) {
		if c.do != "abort" || c.was.State(c.id) != xid.Running {
			return
		}
		for _, id := range c.ids() {
			hit := id == c.id || c.below(id, c.id)
			if hit && (c.is.Counts(id) || c.is.State(id) != xid.Gone || c.is.Number(id) != 0) || !hit && !c.same(id) {
				t.Fatalf("abort %d: %d: %s, %s", c.id, id, tell(c.was), tell(c.is))
			}
		}
	})
}

// P9.7: after the Commit of a top one all below it that counted have committed, with one number; after a Commit, or a Begin, all others are unchanged.
func TestAllAtOnce(t *testing.T) {
	everyChange(t, func(c change) {
		if c.do == "abort" || c.do == "commit" && c.was.State(c.id) != xid.Running {
			return
		}
		for _, id := range c.ids() {
			hit := c.do == "commit" && (id == c.id || c.below(id, c.id)) && c.was.Counts(id)
			number := 0
			if c.was.Top(c.id) == c.id {
				number = c.is.Last()
			}
			if hit && (!c.is.Counts(id) || c.is.State(id) != xid.Done || c.is.Number(id) != number) || !hit && !c.same(id) {
				t.Fatalf("%s %d: %d: %s, %s", c.do, c.id, id, tell(c.was), tell(c.is))
			}
		}
	})
}

// P9.8: two rows of steps, on a table and on its copy, in turn: neither is visible in the other one.
func TestCopies(t *testing.T) {
	for seed := range 60 {
		r := random(1000 + seed)
		tables, expected := []*xid.Table{xid.New()}, []*words{{}}
		for i := range 120 {
			if i%30 == 10 {
				from := r.below(len(tables))
				tables, expected = append(tables, tables[from].Copy()), append(expected, expected[from].copy())
			}
			k := r.below(len(tables))
			x, w := tables[k], expected[k]
			s := step{[]string{"begin", "begin", "commit", "abort"}[r.below(4)], r.below(len(w.states) + 2)}
			if want, e := w.run(s), run(t, x, s); e != want {
				t.Fatalf("%s %d: %d, want %d", s.do, s.id, e, want)
			}
			for k := range tables {
				checkWords(t, tables[k], expected[k])
			}
		}
	}
}
