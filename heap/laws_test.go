package heap_test

import (
	"slices"
	"testing"

	"covenant/api"
	"covenant/heap"
)

// step is a call of one of those that change a heap: n(ext), p(ut), k(ill), f(ree); what its call does not take is 0.
type step struct {
	do       byte
	x        heap.Tuple
	slot     int
	xid, cmd int
}

// run does a step, and answers what the call does.
func run(h *heap.Heap, s step) (int, api.Errno) {
	switch s.do {
	case 'n':
		return h.Next(s.x.No), api.OK
	case 'p':
		return h.Put(s.x)
	case 'k':
		return 0, h.Kill(s.slot, s.xid, s.cmd)
	}
	return 0, h.Free(s.slot)
}

// placed is a tuple, and its slot.
type placed struct {
	slot int
	heap.Tuple
}

// words is a heap as the chapter's words have it: what was put, and not freed, in the order in which it was put, and all IDs of each table; each thing is asked of all of that.
type words struct {
	there []placed
	ids   map[int][]int
}

// find is where the tuple of a slot stands, -1 if there is none.
func (w *words) find(slot int) int {
	return slices.IndexFunc(w.there, func(p placed) bool { return p.slot == slot })
}

// may reports whether a number may be that of a table, or of a row.
func may(n int) bool { return n >= 1 && n <= top }

// run does a step, and answers what it is to be answered.
func (w *words) run(s step) (int, api.Errno) {
	i := w.find(s.slot)
	switch {
	case s.do == 'n':
		if !may(s.x.No) || slices.Contains(w.ids[s.x.No], top) {
			return 0, api.OK
		}
		id := 1 + slices.Max(append([]int{0}, w.ids[s.x.No]...))
		w.ids[s.x.No] = append(w.ids[s.x.No], id)
		return id, api.OK
	case s.do == 'p':
		if !may(s.x.No) || !may(s.x.ID) {
			return 0, api.ErrArg
		}
		slot := 0
		for w.find(slot) >= 0 {
			slot++
		}
		w.there = append(w.there, placed{slot, s.x})
		w.ids[s.x.No] = append(w.ids[s.x.No], s.x.ID)
		return slot, api.OK
	case i < 0:
		return 0, api.ErrArg
	case s.do == 'k':
		w.there[i].Max, w.there[i].CMax = s.xid, s.cmd
		return 0, api.OK
	}
	w.there = slices.Delete(w.there, i, i+1)
	return 0, api.OK
}

func (w *words) copy() *words {
	ids := map[int][]int{}
	for no, l := range w.ids {
		ids[no] = slices.Clone(l)
	}
	return &words{slices.Clone(w.there), ids}
}

// numbers is a number of each tuple of which that is asked, in increasing order, each once.
func (w *words) numbers(of func(p placed) (int, bool)) []int {
	var l []int
	for _, p := range w.there {
		if n, is := of(p); is {
			l = append(l, n)
		}
	}
	slices.Sort(l)
	return slices.Compact(l)
}

// slots are those of a row's tuples, in the order in which they were put.
func (w *words) slots(no, id int) []int {
	var l []int
	for _, p := range w.there {
		if p.No == no && p.ID == id {
			l = append(l, p.slot)
		}
	}
	return l
}

// alike reports whether two tuples are the same; their Rows are compared as lists, for speed.
func alike(a, b heap.Tuple) bool {
	return a.No == b.No && a.ID == b.ID && a.Min == b.Min && a.CMin == b.CMin && a.Max == b.Max && a.CMax == b.CMax && (a.Row == nil) == (b.Row == nil) && slices.Equal(a.Row, b.Row)
}

var (
	someTables = []int{0, 1, 2, 3, top}
	someRows   = []int{0, 1, 2, 3, 4, 5, top - 1, top}
)

// checkWords checks that a heap is as the words have it.
func checkWords(t *testing.T, h *heap.Heap, w *words) {
	t.Helper()
	if h.Len() != len(w.there) {
		t.Fatalf("Len() = %d, want %d", h.Len(), len(w.there))
	}
	tables := w.numbers(func(p placed) (int, bool) { return p.No, true })
	if got := h.Tables(); !slices.Equal(got, tables) {
		t.Fatalf("Tables() = %v, want %v", got, tables)
	}
	for _, no := range someTables {
		ids := w.numbers(func(p placed) (int, bool) { return p.ID, p.No == no })
		if got := h.IDs(no); !slices.Equal(got, ids) {
			t.Fatalf("IDs(%d) = %v, want %v", no, got, ids)
		}
		for _, id := range append(ids, someRows...) {
			if got, want := h.Slots(no, id), w.slots(no, id); !slices.Equal(got, want) {
				t.Fatalf("Slots(%d, %d) = %v, want %v", no, id, got, want)
			}
		}
	}
	for slot := -1; slot <= len(w.there)+2; slot++ {
		var want heap.Tuple
		i := w.find(slot)
		if i >= 0 {
			want = w.there[i].Tuple
		}
		if got, is := h.At(slot); is != (i >= 0) || !alike(got, want) {
			t.Fatalf("At(%d) = %#v, %v, want %#v", slot, got, is, want)
		}
	}
}

// checkStep does a step on a heap and on the words, and checks that both are answered the same.
func checkStep(t *testing.T, h *heap.Heap, w *words, s step) (int, api.Errno) {
	t.Helper()
	n, e := run(h, s)
	if want, wanted := w.run(s); n != want || e != wanted {
		t.Fatalf("%c %#v, %d: %d, %d, want %d, %d", s.do, s.x, s.slot, n, e, want, wanted)
	}
	return n, e
}

// change is a step that was done: what it was answered, how the heap was, and how it is, and what came ahead of it.
type change struct {
	step
	answer  int
	e       api.Errno
	was, is *heap.Heap
	past    past
}

// past is what was ahead of a step, on its heap: the greatest number of tuples, and the greatest ID of each table that a step named.
type past struct {
	most int
	last [4]int
}

// with is the past of what comes behind a step.
func (p past) with(c change) past {
	p.most = max(p.most, c.is.Len())
	switch {
	case c.do == 'n':
		p.last[c.x.No] = max(p.last[c.x.No], c.answer)
	case c.do == 'p' && c.e == api.OK:
		p.last[c.x.No] = max(p.last[c.x.No], c.x.ID)
	}
	return p
}

// shortSteps are those of which short rows are made; n tells one tuple from another, and what is killed once from what is killed twice.
func shortSteps(n int) []step {
	l := []step{{do: 'n', x: heap.Tuple{No: 1}}, {do: 'n', x: heap.Tuple{No: 2}}}
	for _, x := range []heap.Tuple{tuple(1, 1, n), tuple(1, 3, n), tuple(2, 1, n)} {
		l = append(l, step{do: 'p', x: x})
	}
	for slot := range 3 {
		l = append(l, step{do: 'f', slot: slot}, step{do: 'k', slot: slot, xid: n, cmd: n + 1})
	}
	return l
}

// shortRows calls f with each step of each row of so many steps, and checks that the heap is as the words have it, behind the step, and ahead of it once more.
func shortRows(t *testing.T, length int, f func(c change)) {
	t.Helper()
	var from func(h *heap.Heap, w *words, p past, left int)
	from = func(h *heap.Heap, w *words, p past, left int) {
		if left == 0 {
			return
		}
		for _, s := range shortSteps(10 - left) {
			is, v := h.Copy(), w.copy()
			n, e := checkStep(t, is, v, s)
			checkWords(t, is, v)
			c := change{s, n, e, h, is, p}
			f(c)
			if e == api.OK {
				from(is, v, p.with(c), left-1)
			}
		}
		checkWords(t, h, w)
	}
	from(heap.New(), &words{nil, map[int][]int{}}, past{}, length)
}

// random is a row of numbers that always is the same.
type random uint64

// below is a number from 0 on, less than n.
func (r *random) below(n int) int {
	*r = *r*6364136223846793005 + 1442695040888963407
	return int(uint64(*r) >> 33 % uint64(n))
}

// of is one of some numbers.
func (r *random) of(l ...int) int { return l[r.below(len(l))] }

// step is any one; of three Puts there are as many Frees as size has it: 1 lets a heap grow, 3 lets it stay small.
func (r *random) step(n, slots, size int) step {
	do := append([]byte("pppkn"), "fff"[:size]...)
	s := step{do: do[r.below(len(do))]}
	switch s.do {
	case 'n':
		s.x.No = r.of(1, 2, 3)
	case 'p':
		s.x = tuple(r.of(1, 1, 2, 3), r.of(1, 1, 2, 3, 4, 5), n)
		if r.below(100) == 0 {
			s.x.ID = r.of(top-1, top, top+1, 0, -1)
		}
		s.x.Max, s.x.CMax = r.of(0, n), r.of(0, n)
		s.x.Row = rows()[r.below(len(rows()))]
	case 'k':
		s.slot, s.xid, s.cmd = r.below(slots+2)-1, r.of(0, -1, n), r.of(0, -1, n)
	case 'f':
		s.slot = r.below(slots+2) - 1
	}
	return s
}

// longRows calls f with each step of some long rows of steps, and checks that the heap is as the words have it.
func longRows(t *testing.T, f func(c change)) {
	t.Helper()
	for seed := range 45 {
		r := random(seed)
		h, w, p := heap.New(), &words{nil, map[int][]int{}}, past{}
		for n := range 100 {
			s := r.step(n+1, p.most, 1+seed%3)
			was := h.Copy()
			answer, e := checkStep(t, h, w, s)
			checkWords(t, h, w)
			c := change{s, answer, e, was, h, p}
			f(c)
			p = p.with(c)
		}
	}
}

// everyChange calls f with the steps of short rows, all that there are, and of long ones.
func everyChange(t *testing.T, f func(c change)) {
	t.Helper()
	shortRows(t, 4, f)
	longRows(t, f)
}

// P11.1, P11.2: after each step of each row, a heap is as the chapter's words have it; a step that is refused changes nothing.
func TestWords(t *testing.T) {
	done := 0
	shortRows(t, 5, func(c change) { done++ })
	longRows(t, func(c change) { done++ })
	if done < 20000 {
		t.Error("steps:", done)
	}
}

// slotsOf are the slots of all rows of all tables, one behind another.
func slotsOf(h *heap.Heap) []int {
	var l []int
	for _, no := range h.Tables() {
		for _, id := range h.IDs(no) {
			l = append(l, h.Slots(no, id)...)
		}
	}
	return l
}

// P11.3, P11.7: each slot has what it had, but the one that a step is on: that has what was put, or nothing, or another Max and CMax.
func TestContents(t *testing.T) {
	everyChange(t, func(c change) {
		on := c.slot
		if c.do == 'p' {
			on = c.answer
		}
		for slot := -1; slot <= c.past.most+1; slot++ {
			want, there := c.was.At(slot)
			if slot == on && c.e == api.OK {
				switch c.do {
				case 'p':
					if there {
						t.Fatalf("put into %d, which has a tuple", slot)
					}
					want, there = c.x, true
				case 'f':
					want, there = heap.Tuple{}, false
				case 'k':
					want.Max, want.CMax = c.xid, c.cmd
				}
			}
			if got, is := c.is.At(slot); is != there || !alike(got, want) {
				t.Fatalf("%c %d: At(%d) = %#v, %v, want %#v", c.do, on, slot, got, is, want)
			}
		}
	})
}

// P11.4: all slots are below the greatest number of tuples that ever existed at the same time.
func TestBelowMost(t *testing.T) {
	fewer := 0
	everyChange(t, func(c change) {
		most := max(c.past.most, c.is.Len())
		if c.is.Len() < most {
			fewer++
		}
		if l := slotsOf(c.is); len(l) > 0 && (slices.Min(l) < 0 || slices.Max(l) >= most) {
			t.Fatalf("slots %v, of at most %d tuples", l, most)
		}
	})
	if fewer < 1000 {
		t.Error("heaps that had more tuples:", fewer)
	}
}

// P11.5: through the slots of all rows of all tables each tuple occurs once, as one of its row.
func TestOnce(t *testing.T) {
	everyChange(t, func(c change) {
		l := slotsOf(c.is)
		slices.Sort(l)
		if len(slices.Compact(slices.Clone(l))) != len(l) || len(l) != c.is.Len() {
			t.Fatalf("slots %v of %d tuples", l, c.is.Len())
		}
		for slot := -1; slot <= c.past.most+1; slot++ {
			if _, is := c.is.At(slot); is != slices.Contains(l, slot) {
				t.Fatalf("slots %v: %d: %v", l, slot, is)
			}
		}
		for _, no := range c.is.Tables() {
			if len(c.is.IDs(no)) == 0 {
				t.Fatalf("table %d has no rows", no)
			}
			for _, id := range c.is.IDs(no) {
				slots := c.is.Slots(no, id)
				if len(slots) == 0 {
					t.Fatalf("row %d of table %d has no tuples", id, no)
				}
				for _, slot := range slots {
					if x, _ := c.is.At(slot); x.No != no || x.ID != id {
						t.Fatalf("row %d of table %d: %d: %#v", id, no, slot, x)
					}
				}
			}
		}
	})
}

// P11.6: each ID is greater, by one, than all that its table's rows had, and were assigned, before; there is none behind the greatest one.
func TestIncrease(t *testing.T) {
	assigned := 0
	everyChange(t, func(c change) {
		if c.do != 'n' {
			return
		}
		assigned++
		want := c.past.last[c.x.No] + 1
		if want > top {
			want = 0
		}
		if c.answer != want {
			t.Fatalf("Next(%d) = %d, want %d", c.x.No, c.answer, want)
		}
	})
	if assigned < 500 {
		t.Error("assigned:", assigned)
	}
}

// P11.7: rows of steps on a heap and on its copies, in turn: none is visible in another one.
func TestCopies(t *testing.T) {
	for seed := range 30 {
		r := random(1000 + seed)
		heaps, expected := []*heap.Heap{heap.New()}, []*words{{nil, map[int][]int{}}}
		for n := range 100 {
			if n%25 == 10 {
				from := r.below(len(heaps))
				heaps, expected = append(heaps, heaps[from].Copy()), append(expected, expected[from].copy())
			}
			k := r.below(len(heaps))
			checkStep(t, heaps[k], expected[k], r.step(n+1, len(expected[k].there)+2, 1+seed%3))
			for k := range heaps {
				checkWords(t, heaps[k], expected[k])
			}
		}
	}
}
