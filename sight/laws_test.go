package sight_test

import (
	"maps"
	"slices"
	"testing"

	"covenant/api"
	"covenant/heap"
	"covenant/sight"
	"covenant/snap"
	"covenant/xid"
)

// level is a transaction that is Running, and what it wrote: by the IDs of rows the slot that it left of each, or none.
type level struct {
	id    int
	wrote map[int]int
}

// writer is a top one: first itself and those below it that are Running, each below the one before it; and, when it has ended, what of its writes counts.
type writer struct {
	id    int
	chain []level
	wrote map[int]int
}

// find is the slot that a writer left of a row, or none, and whether it wrote that row.
func (w *writer) find(row int) (int, bool) {
	for _, l := range slices.Backward(w.chain) {
		if slot, is := l.wrote[row]; is {
			return slot, true
		}
	}
	slot, is := w.wrote[row]
	return slot, is
}

func (w *writer) copy() *writer {
	twin := &writer{w.id, slices.Clone(w.chain), maps.Clone(w.wrote)}
	for i := range twin.chain {
		twin.chain[i].wrote = maps.Clone(w.chain[i].wrote)
	}
	return twin
}

// history is rows of table 1 that are written as chapter 26 says, one transaction of each writer at a time, and what of that is to be visible: past has, by the number of commits, the slots of the rows that there were then.
type history struct {
	h       *heap.Heap
	x       *xid.Table
	writers []*writer
	past    []map[int]int
}

// start is a history with a row, which the transaction 1 put and committed.
func start(t *testing.T) *history {
	t.Helper()
	s := &history{heap.New(), xid.New(), nil, []map[int]int{{}}}
	for _, did := range []bool{s.begin(), s.put(0), s.end(0, 0, 'c')} {
		if !did {
			t.Fatal("start")
		}
	}
	return s
}

func (s *history) copy() *history {
	twin := &history{s.h.Copy(), s.x.Copy(), nil, slices.Clone(s.past)}
	for _, w := range s.writers {
		twin.writers = append(twin.writers, w.copy())
	}
	return twin
}

// now is what is committed.
func (s *history) now() map[int]int { return s.past[len(s.past)-1] }

// begin begins a writer.
func (s *history) begin() bool {
	id, e := s.x.Begin(0)
	s.writers = append(s.writers, &writer{id, []level{{id, map[int]int{}}}, nil})
	return e == api.OK
}

// below begins a transaction below the last one of a writer that has not ended.
func (s *history) below(i int) bool {
	w := s.writers[i]
	if len(w.chain) == 0 {
		return false
	}
	id, e := s.x.Begin(w.chain[len(w.chain)-1].id)
	w.chain = append(w.chain, level{id, map[int]int{}})
	return e == api.OK
}

// end commits (c) or aborts (a) one of a writer's transactions that are Running, with those below it.
func (s *history) end(i, depth int, do byte) bool {
	w := s.writers[i]
	if depth >= len(w.chain) {
		return false
	}
	id, effects := w.chain[depth].id, map[int]int{}
	for _, l := range w.chain[depth:] {
		maps.Copy(effects, l.wrote)
	}
	w.chain = w.chain[:depth:depth]
	if do == 'a' {
		return s.x.Abort(id) == api.OK
	}
	if depth > 0 {
		maps.Copy(w.chain[depth-1].wrote, effects)
		return s.x.Commit(id) == api.OK
	}
	w.wrote = effects
	rows := maps.Clone(s.now())
	maps.Copy(rows, effects)
	maps.DeleteFunc(rows, func(row, slot int) bool { return slot == none })
	s.past = append(s.past, rows)
	return s.x.Commit(id) == api.OK
}

// note enters into what a writer wrote last which slot it left of a row.
func (w *writer) note(row, slot int) { w.chain[len(w.chain)-1].wrote[row] = slot }

// put puts a row.
func (s *history) put(i int) bool {
	w := s.writers[i]
	if len(w.chain) == 0 {
		return false
	}
	row := s.h.Next(1)
	slot, e := s.h.Put(heap.Tuple{No: 1, ID: row, Min: w.chain[len(w.chain)-1].id})
	w.note(row, slot)
	return e == api.OK
}

// write sets (s) or removes (d) a row that is visible now, and nobody else's.
func (s *history) write(i, row int, do byte) bool {
	w := s.writers[i]
	if len(w.chain) == 0 {
		return false
	}
	for j, other := range s.writers {
		if _, is := other.find(row); is && j != i && len(other.chain) > 0 {
			return false
		}
	}
	slot, is := w.find(row)
	if !is {
		slot, is = s.now()[row]
	}
	if !is || slot == none {
		return false
	}
	by, next := w.chain[len(w.chain)-1].id, none
	e := s.h.Kill(slot, by, 0)
	if do == 's' && e == api.OK {
		next, e = s.h.Put(heap.Tuple{No: 1, ID: row, Min: by})
	}
	w.note(row, next)
	return e == api.OK
}

// slot is what a viewer is to see of a row, and whether the row is its own.
func (s *history) slot(v snap.Viewer, row int) (int, bool) {
	for _, w := range s.writers {
		if slot, is := w.find(row); is && w.id == v.Me {
			return slot, true
		}
	}
	if v.At < 0 {
		return none, false
	}
	slot, is := s.past[min(v.At, len(s.past)-1)][row]
	if !is {
		return none, false
	}
	return slot, false
}

// step is one thing that a writer does; with what its kind does not take being 0.
type step struct {
	do        byte // B(egin), b(elow), c(ommit), a(bort), p(ut), s(et), d(elete)
	i         int
	depth, on int
}

// do does a step, and reports whether that was possible; where it was not, the history is spoilt.
func (s *history) do(p step) bool {
	switch p.do {
	case 'B':
		return s.begin()
	case 'b':
		return s.below(p.i)
	case 'c', 'a':
		return s.end(p.i, p.depth, p.do)
	case 'p':
		return s.put(p.i)
	}
	return s.write(p.i, p.on, p.do)
}

// possible are the steps that short rows are made of: of at most so many writers, and rows.
func (s *history) possible(writers, rows int) []step {
	var l []step
	if len(s.writers) < writers {
		l = append(l, step{do: 'B'})
	}
	for i, w := range s.writers {
		if len(w.chain) == 0 {
			continue
		}
		if len(w.chain) < 3 {
			l = append(l, step{do: 'b', i: i})
		}
		for depth := range w.chain {
			l = append(l, step{do: 'c', i: i, depth: depth}, step{do: 'a', i: i, depth: depth})
		}
		if len(s.h.IDs(1)) < rows {
			l = append(l, step{do: 'p', i: i})
		}
		for row := 1; row <= rows; row++ {
			l = append(l, step{do: 's', i: i, on: row}, step{do: 'd', i: i, on: row})
		}
	}
	return l
}

// change is a step that was done, and the histories ahead of it and behind it.
type change struct {
	step
	was, is *history
}

// shortRows calls f with each step of each row of so many steps.
func shortRows(t *testing.T, length int, f func(c change)) {
	t.Helper()
	var from func(s *history, left int)
	from = func(s *history, left int) {
		if left == 0 {
			return
		}
		for _, p := range s.possible(3, 2) {
			next := s.copy()
			if !next.do(p) {
				continue
			}
			f(change{p, s, next})
			from(next, left-1)
		}
	}
	from(start(t), length)
}

// random is a row of numbers that always is the same.
type random uint64

// below is a number from 0 on, less than n.
func (r *random) below(n int) int {
	*r = *r*6364136223846793005 + 1442695040888963407
	return int(uint64(*r) >> 33 % uint64(n))
}

// step is any one, of those that may be possible.
func (r *random) step(s *history) step {
	l := s.possible(len(s.writers), 5)
	if len(l) == 0 || r.below(8) == 0 {
		return step{do: 'B'}
	}
	return l[r.below(len(l))]
}

// longRows calls f with each step of some long rows of steps.
func longRows(t *testing.T, f func(c change)) {
	t.Helper()
	for seed := range 14 {
		r := random(seed)
		s := start(t)
		for range 120 {
			next := s.copy()
			p := r.step(s)
			if !next.do(p) {
				continue
			}
			f(change{p, s, next})
			s = next
		}
	}
}

// everyChange calls f with the steps of short rows, all that there are, and of long ones.
func everyChange(t *testing.T, f func(c change)) {
	t.Helper()
	shortRows(t, 5, f)
	longRows(t, f)
}

// rows are all that have a version, and one that has none.
func (s *history) rows() []int { return append(s.h.IDs(1), 1000) }

// viewers calls f with those of each number of commits, as nobody, and as each writer.
func (s *history) viewers(f func(v snap.Viewer)) {
	for at := -1; at <= s.x.Last()+1; at++ {
		f(snap.Viewer{At: at})
		for _, w := range s.writers {
			f(snap.Viewer{At: at, Me: w.id})
		}
	}
}

// slots are those of all versions.
func (s *history) slots() []int {
	var l []int
	for _, row := range s.h.IDs(1) {
		l = append(l, s.h.Slots(1, row)...)
	}
	return l
}

// P12.1, P12.3, P12.6: behind each step of each row, each viewer is answered what the writes come to, those of its own, and those committed when it was taken.
func TestHistories(t *testing.T) {
	done := 0
	everyChange(t, func(c change) {
		done++
		s := c.is
		current := snap.Now(s.x, 0)
		s.viewers(func(v snap.Viewer) {
			var ids []int
			for _, row := range s.rows() {
				want, own := s.slot(v, row)
				newer, _ := s.slot(current, row)
				if got := seen(s.h, s.x, v, 1, row); got != want {
					t.Fatalf("%c: %v: Seen of %d: %d, want %d", c.do, v, row, got, want)
				}
				if sight.Own(s.h, s.x, v, 1, row) != own {
					t.Fatalf("%c: %v: Own of %d: %v", c.do, v, row, !own)
				}
				if got := newest(s.h, s.x, 1, row); got != newer {
					t.Fatalf("%c: Newest of %d: %d, want %d", c.do, row, got, newer)
				}
				if fresh := own || want == newer; sight.Fresh(s.h, s.x, v, 1, row) != fresh {
					t.Fatalf("%c: %v: Fresh of %d: %v", c.do, v, row, !fresh)
				}
				if want != none {
					ids = append(ids, row)
				}
			}
			if got := sight.IDs(s.h, s.x, v, 1); !slices.Equal(got, ids) {
				t.Fatalf("%c: %v: IDs: %v, want %v", c.do, v, got, ids)
			}
		})
	})
	if done < 2000 {
		t.Error("steps:", done)
	}
}

// P12.3: of each row at most one version is visible to each viewer, as the chapter's words have that.
func TestAtMostOne(t *testing.T) {
	everyChange(t, func(c change) {
		s := c.is
		s.viewers(func(v snap.Viewer) {
			for _, row := range s.rows() {
				affects := v.Sees
				if sight.Own(s.h, s.x, v, 1, row) {
					affects = v.Own
				}
				var visible []int
				for _, slot := range s.h.Slots(1, row) {
					if x, _ := s.h.At(slot); affects(s.x, x.Min) && !affects(s.x, x.Max) {
						visible = append(visible, slot)
					}
				}
				if len(visible) > 1 || seen(s.h, s.x, v, 1, row) != last(visible) {
					t.Fatalf("%c: %v: row %d: %v", c.do, v, row, visible)
				}
			}
		})
	})
}

// P12.4: what snapshots see of rows is the same behind each step as ahead of it: each one's without a transaction of its own, and each other one's, but for the step of that itself.
func TestSnapshots(t *testing.T) {
	asked := 0
	everyChange(t, func(c change) {
		for at := -1; at <= c.was.x.Last(); at++ {
			mes := []int{0}
			for i, w := range c.was.writers {
				if i != c.i || c.do == 'B' {
					mes = append(mes, w.id)
				}
			}
			for _, me := range mes {
				v := snap.Viewer{At: at, Me: me}
				for _, row := range c.is.rows() {
					asked++
					if was, is := seen(c.was.h, c.was.x, v, 1, row), seen(c.is.h, c.is.x, v, 1, row); was != is {
						t.Fatalf("%c: %v: row %d: %d, %d", c.do, v, row, was, is)
					}
				}
			}
		}
	})
	if asked < 20000 {
		t.Error("asked:", asked)
	}
}

// P12.4: snapshots that are taken behind each step of a row see the same behind each later one.
func TestKeptSnapshots(t *testing.T) {
	type kept struct {
		snap.Viewer
		slots []int
	}
	look := func(s *history, v snap.Viewer) []int {
		var l []int
		for row := range 12 {
			l = append(l, seen(s.h, s.x, v, 1, row))
		}
		return l
	}
	var all []kept
	longRows(t, func(c change) {
		if c.was.x.Len() == 1 {
			all = nil
		}
		for _, k := range all {
			if got := look(c.is, k.Viewer); !slices.Equal(got, k.slots) {
				t.Fatalf("%c: %v: %v, %v", c.do, k.Viewer, k.slots, got)
			}
		}
		v := snap.Now(c.is.x, 0)
		all = append(all, kept{v, look(c.is, v)})
	})
}

// P12.2, P12.5: what is dead at a number is visible to nobody, without a transaction of its own, who sees as many commits or more; and is dead at greater numbers, and behind each later step.
func TestDeadOnes(t *testing.T) {
	found := 0
	everyChange(t, func(c change) {
		s := c.is
		for _, slot := range s.slots() {
			x, _ := s.h.At(slot)
			for at := -1; at <= s.x.Last()+1; at++ {
				dead := sight.Dead(s.h, s.x, at, slot)
				if sight.Dead(c.was.h, c.was.x, at, slot) && !dead {
					t.Fatalf("%c: %d is not dead at %d any more", c.do, slot, at)
				}
				if !dead {
					continue
				}
				found++
				for more := at; more <= s.x.Last()+2; more++ {
					if !sight.Dead(s.h, s.x, more, slot) || seen(s.h, s.x, snap.Viewer{At: more}, 1, x.ID) == slot {
						t.Fatalf("%c: %d is dead at %d: at %d", c.do, slot, at, more)
					}
				}
			}
		}
	})
	if found < 2000 {
		t.Error("dead:", found)
	}
}

// P12.2: what is not dead at a number is visible to one who sees as many commits, or more, or will be, when all that is Running is committed.
func TestOnesThatLive(t *testing.T) {
	found := 0
	everyChange(t, func(c change) {
		for at := range c.is.x.Last() + 1 {
			end := c.is.copy()
			for i := range end.writers {
				end.end(i, 0, 'c')
			}
			for _, slot := range c.is.slots() {
				x, _ := c.is.h.At(slot)
				if sight.Dead(c.is.h, c.is.x, at, slot) {
					continue
				}
				visible := false
				for more := at; more <= end.x.Last(); more++ {
					visible = visible || seen(end.h, end.x, snap.Viewer{At: more}, 1, x.ID) == slot
				}
				// What one transaction made and ended, or one and those below it, nobody else ever sees.
				if !visible && end.x.Top(x.Min) != end.x.Top(x.Max) {
					t.Fatalf("%c: %d is not dead at %d", c.do, slot, at)
				}
				found++
			}
		}
	})
	if found < 2000 {
		t.Error("not dead:", found)
	}
}

// P12.5: without what is dead at a number all who see as many commits or more are answered the same, those with a transaction of their own that is Running, too.
func TestWithoutTheDead(t *testing.T) {
	freed := 0
	everyChange(t, func(c change) {
		s := c.is
		for at := range s.x.Last() + 1 {
			left := s.h.Copy()
			for _, slot := range s.slots() {
				if sight.Dead(s.h, s.x, at, slot) {
					freed++
					free(t, left, slot)
				}
			}
			s.viewers(func(v snap.Viewer) {
				if v.At < at || v.Me != 0 && s.x.State(v.Me) != xid.Running {
					return
				}
				for _, row := range s.rows() {
					if was, is := seen(s.h, s.x, v, 1, row), seen(left, s.x, v, 1, row); was != is {
						t.Fatalf("%c: without the dead at %d: %v: row %d: %d, %d", c.do, at, v, row, was, is)
					}
				}
			})
		}
	})
	if freed < 2000 {
		t.Error("freed:", freed)
	}
}

// P12.6: whoever has a transaction that is Running sees what that left of a row; nobody else sees a version that it made, or that one is gone which it ended.
func TestWhoWrote(t *testing.T) {
	asked := 0
	everyChange(t, func(c change) {
		s := c.is
		s.viewers(func(v snap.Viewer) {
			for _, w := range s.writers {
				if len(w.chain) == 0 {
					continue
				}
				for _, row := range s.rows() {
					left, is := w.find(row)
					if !is {
						continue
					}
					asked++
					got := seen(s.h, s.x, v, 1, row)
					if w.id == v.Me {
						if got != left || !sight.Own(s.h, s.x, v, 1, row) || !sight.Fresh(s.h, s.x, v, 1, row) {
							t.Fatalf("%c: %v: row %d: %d, want %d", c.do, v, row, got, left)
						}
						continue
					}
					version, _ := s.h.At(got)
					if got != none && s.x.Top(version.Min) == w.id {
						t.Fatalf("%c: %v: row %d: %d, which %d made", c.do, v, row, got, w.id)
					}
					if other, _ := s.slot(v, row); got != other {
						t.Fatalf("%c: %v: row %d: %d, want %d", c.do, v, row, got, other)
					}
				}
			}
		})
	})
	if asked < 5000 {
		t.Error("asked:", asked)
	}
}
