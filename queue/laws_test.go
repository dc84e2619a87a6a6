package queue_test

import (
	"fmt"
	"math"
	"slices"
	"testing"

	"covenant/api"
	"covenant/modes"
	"covenant/queue"
)

// tell tells all that may be asked of a lock, of numbers below 12.
func tell(l *queue.Lock) string {
	s := fmt.Sprint("holders ", l.Holders(), " row ", l.Row(), " idle ", l.Idle())
	for who := -1; who < 12; who++ {
		mode, is := l.Waits(who)
		s += fmt.Sprintf("; %d: %b, %d, %v, %v", who, l.Held(who), mode, is, l.For(who))
	}
	return s
}

// step is a request in a mode, or, if free, a release.
type step struct {
	who  int
	mode uint8
	free bool
}

// answer is what a step is answered.
type answer struct {
	has     bool
	granted []int
	e       api.Errno
}

func (a answer) same(b answer) bool {
	return a.has == b.has && slices.Equal(a.granted, b.granted) && a.e == b.e
}

// run does a step.
func run(l *queue.Lock, s step) answer {
	var a answer
	if s.free {
		a.granted, a.e = l.Drop(s.who)
	} else {
		a.has, a.e = l.Ask(s.who, s.mode)
	}
	return a
}

// words is a lock as the chapter's words have it: each mode of each holder, one by one, and the queue.
type words struct {
	class class
	holds []wait
	waits []wait
}

// held is the set of the modes that somebody holds.
func (w *words) held(who int) uint16 {
	held := uint16(0)
	for _, h := range w.holds {
		if h.who == who {
			held |= 1 << h.mode
		}
	}
	return held
}

// place is where somebody stands in the queue, -1 if it does not wait.
func (w *words) place(who int) int {
	for i, r := range w.waits {
		if r.who == who {
			return i
		}
	}
	return -1
}

// blockers are those who block a request that has some before it, in increasing order, each once.
func (w *words) blockers(r wait, before []wait) []int {
	others := slices.Clone(w.holds)
	if w.held(r.who) == 0 {
		others = append(others, before...)
	}
	var all []int
	for _, other := range others {
		if other.who != r.who && w.class.apart(other.mode, r.mode) {
			all = append(all, other.who)
		}
	}
	slices.Sort(all)
	return slices.Compact(all)
}

// without is a list without what is somebody's.
func without(list []wait, who int) []wait {
	var rest []wait
	for _, x := range list {
		if x.who != who {
			rest = append(rest, x)
		}
	}
	return rest
}

// run does a step, and answers what it is to be answered.
func (w *words) run(s step) answer {
	switch {
	case s.who < 1 || !s.free && !modes.May(w.class.is, s.mode):
		return answer{e: api.ErrArg}
	case s.free:
		w.holds, w.waits = without(w.holds, s.who), without(w.waits, s.who)
		return answer{granted: w.settle()}
	case modes.Covers(w.class.is, w.held(s.who), s.mode):
		return answer{has: true}
	case w.place(s.who) >= 0:
		return answer{}
	}
	r := wait{s.who, s.mode}
	if len(w.blockers(r, w.waits)) > 0 {
		w.waits = append(w.waits, r)
		return answer{}
	}
	w.holds = append(w.holds, r)
	return answer{has: true}
}

// settle grants the lock to the first one who is not blocked, and so on, from the first one on each time.
func (w *words) settle() []int {
	for i, r := range w.waits {
		if len(w.blockers(r, w.waits[:i])) == 0 {
			w.waits = slices.Delete(w.waits, i, i+1)
			w.holds = append(w.holds, r)
			return append([]int{r.who}, w.settle()...)
		}
	}
	return nil
}

func (w *words) copy() *words {
	return &words{w.class, slices.Clone(w.holds), slices.Clone(w.waits)}
}

// checkWords checks that a lock is as the words have it, of numbers up to one above the greatest.
func checkWords(t *testing.T, l *queue.Lock, w *words, greatest int) {
	t.Helper()
	var holders, row []int
	for _, r := range w.waits {
		row = append(row, r.who)
	}
	for who := -1; who <= greatest+1; who++ {
		held, at := w.held(who), w.place(who)
		if held != 0 {
			holders = append(holders, who)
		}
		var want wait
		var whom []int
		if at >= 0 {
			want = w.waits[at]
			whom = w.blockers(want, w.waits[:at])
		}
		mode, is := l.Waits(who)
		if l.Held(who) != held || is != (at >= 0) || mode != want.mode || !slices.Equal(l.For(who), whom) {
			t.Fatalf("%d: %s, want %+v", who, tell(l), w)
		}
	}
	if !slices.Equal(l.Holders(), holders) || !slices.Equal(l.Row(), row) || l.Idle() != (len(holders)+len(row) == 0) {
		t.Fatalf("%s, want %+v", tell(l), w)
	}
}

// change is a step that was done: what it was answered, and how the lock was, and is.
type change struct {
	step
	answer
	class    class
	was, is  *queue.Lock
	greatest int // of all numbers of its row of steps
}

// others are all who request, but the one of the step.
func (c change) others() []int {
	var all []int
	for who := 1; who <= c.greatest; who++ {
		if who != c.who {
			all = append(all, who)
		}
	}
	return all
}

// do does a step on a lock and on the words, and checks that both are answered the same, and are alike.
func do(t *testing.T, l *queue.Lock, w *words, s step, greatest int) answer {
	t.Helper()
	a := run(l, s)
	if want := w.run(s); !a.same(want) {
		t.Fatalf("%+v: %+v, want %+v: %s", s, a, want, tell(l))
	}
	checkWords(t, l, w, greatest)
	return a
}

// shortRows calls f with each step of each row of so many steps of some, in some modes.
func shortRows(t *testing.T, c class, list []uint8, greatest, length int, f func(c change)) {
	t.Helper()
	var steps []step
	for who := 1; who <= greatest; who++ {
		steps = append(steps, step{who: who, free: true})
		for _, mode := range list {
			steps = append(steps, step{who: who, mode: mode})
		}
	}
	var from func(l *queue.Lock, w *words, left int)
	from = func(l *queue.Lock, w *words, left int) {
		for _, s := range steps {
			is, v := l.Copy(), w.copy()
			a := do(t, is, v, s, greatest)
			f(change{s, a, c, l, is, greatest})
			if left > 1 {
				from(is, v, left-1)
			}
		}
		checkWords(t, l, w, greatest)
	}
	from(lockOf(t, c.is), &words{class: c}, length)
}

// random is a row of numbers that always is the same.
type random uint64

// below is a number from 0 on, less than n.
func (r *random) below(n int) int {
	*r = *r*6364136223846793005 + 1442695040888963407
	return int(uint64(*r) >> 33 % uint64(n))
}

// step is any one, by those from 1 on, up to the greatest; some few are refused.
func (r *random) step(c class, greatest int) step {
	s := step{who: 1 + r.below(greatest), mode: 1 + uint8(r.below(int(c.last))), free: r.below(5) < 2}
	switch r.below(60) {
	case 0:
		s.who = []int{0, -1, math.MinInt}[r.below(3)]
	case 1:
		s.mode = []uint8{0, c.last + 1, 15, 16, 255}[r.below(5)]
	}
	return s
}

// longRows calls f with each step of some long rows of steps of few and of several.
func longRows(t *testing.T, f func(c change)) {
	t.Helper()
	for seed := range 60 {
		r, c, greatest := random(seed), classes[seed%2], 2+seed%7
		l, w := lockOf(t, c.is), &words{class: c}
		for range 200 {
			s, was := r.step(c, greatest), l.Copy()
			a := do(t, l, w, s, greatest)
			f(change{s, a, c, was, l, greatest})
		}
	}
}

// everyChange calls f with the steps of short rows, all that there are, and of long ones.
func everyChange(t *testing.T, f func(c change)) {
	t.Helper()
	tables, others := classes[0], classes[1]
	shortRows(t, others, others.modes(), 3, 4, f)
	shortRows(t, others, others.modes(), 4, 3, f)
	shortRows(t, tables, tables.modes(), 2, 3, f)
	shortRows(t, tables, []uint8{1, 3, 5, 8}, 3, 3, f)
	longRows(t, f)
}

// P14.1, P14.2: after each step of each row, a lock is as the chapter's words have it; a step that is refused changes nothing.
func TestWords(t *testing.T) {
	done, refused := 0, 0
	f := func(c change) {
		done++
		if c.e != api.OK {
			refused++
			if tell(c.was) != tell(c.is) {
				t.Fatalf("%+v: %s, was %s", c.step, tell(c.is), tell(c.was))
			}
		}
	}
	tables, others := classes[0], classes[1]
	shortRows(t, others, others.modes(), 3, 5, f)
	shortRows(t, tables, tables.modes(), 3, 3, f)
	longRows(t, f)
	if done < 90000 || refused < 100 {
		t.Error("steps:", done, "refused:", refused)
	}
}

// mode is the mode in which somebody waits, who does.
func mode(l *queue.Lock, who int) uint8 {
	m, _ := l.Waits(who)
	return m
}

// P14.3: the modes of any two who hold it are compatible.
func TestCompatible(t *testing.T) {
	pairs := 0
	everyChange(t, func(c change) {
		for _, one := range c.is.Holders() {
			for _, other := range c.is.Holders() {
				if one == other {
					continue
				}
				pairs++
				for _, m := range c.class.modes() {
					if c.is.Held(one)&set(m) != 0 && !modes.Go(c.class.is, c.is.Held(other), m) {
						t.Fatalf("%d and %d: %s", one, other, tell(c.is))
					}
				}
			}
		}
	})
	if pairs < 5000 {
		t.Error("pairs:", pairs)
	}
}

// P14.4: each one who waits waits for somebody: for others, each of whom is in the way, by what it holds, or waits for ahead of it; so it would not be granted the lock.
func TestSomebodyToWaitFor(t *testing.T) {
	waiters := 0
	everyChange(t, func(c change) {
		row := c.is.Row()
		for at, who := range row {
			waiters++
			whom := c.is.For(who)
			if len(whom) == 0 || !slices.IsSorted(whom) || slices.Contains(whom, who) {
				t.Fatalf("%d waits for %v: %s", who, whom, tell(c.is))
			}
			for other := 1; other <= c.greatest; other++ {
				isThere := other != who && !modes.Go(c.class.is, c.is.Held(other), mode(c.is, who))
				if c.is.Held(who) == 0 && slices.Contains(row[:at], other) {
					isThere = isThere || c.class.apart(mode(c.is, other), mode(c.is, who))
				}
				if isThere != slices.Contains(whom, other) {
					t.Fatalf("%d waits for %v, and %d: %s", who, whom, other, tell(c.is))
				}
			}
		}
	})
	if waiters < 5000 {
		t.Error("waiters:", waiters)
	}
}

// P14.4: who waits, and holds nothing, is not granted the lock if it requests it as one who comes last, either.
func TestWouldNotBeGranted(t *testing.T) {
	tried := 0
	everyChange(t, func(c change) {
		row := c.is.Row()
		if len(row) == 0 || c.is.Held(row[len(row)-1]) != 0 {
			return
		}
		tried++
		last := row[len(row)-1]
		m, l := mode(c.is, last), c.is.Copy()
		if granted, e := l.Drop(last); len(granted) > 0 || e != api.OK {
			t.Fatalf("Drop(%d) = %v, %d: %s", last, granted, e, tell(c.is))
		}
		if is, e := l.Ask(last, m); is || e != api.OK || tell(l) != tell(c.is) {
			t.Fatalf("Ask(%d, %d) = %v, %d: %s", last, m, is, e, tell(c.is))
		}
	})
	if tried < 2000 {
		t.Error("tried:", tried)
	}
}

// P14.5: when all others who hold it, and all who wait before one, release it, in whatever order, that one holds it.
func TestFinally(t *testing.T) {
	waiters := 0
	everyChange(t, func(c change) {
		row := c.is.Row()
		for at, who := range row {
			waiters++
			before := append(c.is.Holders(), row[:at]...)
			before = slices.DeleteFunc(before, func(other int) bool { return other == who })
			backward := slices.Clone(before)
			slices.Reverse(backward)
			for _, order := range [][]int{before, backward} {
				l := c.is.Copy()
				for _, other := range order {
					if _, e := l.Drop(other); e != api.OK {
						t.Fatal(other, e)
					}
				}
				if _, waits := l.Waits(who); waits || l.Held(who) != modes.With(c.is.Held(who), mode(c.is, who)) {
					t.Fatalf("%d behind %v: %s, was %s", who, order, tell(l), tell(c.is))
				}
			}
		}
	})
	if waiters < 5000 {
		t.Error("waiters:", waiters)
	}
}

// P14.5: when all who hold it release it, again and again, all who wait hold it in their turn, and it is idle in the end.
func TestAllInTheirTurn(t *testing.T) {
	everyChange(t, func(c change) {
		l, served := c.is.Copy(), []int{}
		for rounds := 0; !l.Idle(); rounds++ {
			holders := l.Holders()
			if len(holders) == 0 || rounds > c.greatest {
				t.Fatalf("%d rounds: %s", rounds, tell(l))
			}
			for _, who := range holders {
				granted, e := l.Drop(who)
				if e != api.OK {
					t.Fatal(who, e)
				}
				served = append(served, granted...)
			}
		}
		for _, who := range c.is.Row() {
			if c.is.Held(who) == 0 && !slices.Contains(served, who) {
				t.Fatalf("%d never holds it: %s", who, tell(c.is))
			}
		}
	})
}

// P14.1, P14.6: a release takes all from the one whose it is, and nothing from anybody else: what is held is held, and who waits does so still, in its mode and behind the same ones, or was granted that mode.
func TestNobodyElse(t *testing.T) {
	released, kept, granted := 0, 0, 0
	everyChange(t, func(c change) {
		if !c.free || c.e != api.OK {
			return
		}
		released++
		if _, waits := c.is.Waits(c.who); waits || c.is.Held(c.who) != 0 {
			t.Fatalf("%d: %s", c.who, tell(c.is))
		}
		for _, other := range c.others() {
			want, waited := c.was.Held(other), mode(c.was, other)
			if slices.Contains(c.granted, other) {
				granted++
				want, waited = modes.With(want, waited), 0
			}
			if want != 0 {
				kept++
			}
			if c.is.Held(other) != want || mode(c.is, other) != waited {
				t.Fatalf("%d releases it, %d: %s, was %s", c.who, other, tell(c.is), tell(c.was))
			}
		}
		row := slices.DeleteFunc(c.was.Row(), func(who int) bool { return who == c.who || slices.Contains(c.granted, who) })
		if !slices.Equal(c.is.Row(), row) {
			t.Fatalf("%d releases it: %s, was %s", c.who, tell(c.is), tell(c.was))
		}
	})
	if released < 2000 || kept < 2000 || granted < 500 {
		t.Error("released:", released, "kept:", kept, "granted:", granted)
	}
}

// P14.6: somebody who neither holds it nor waits for it changes nothing by releasing it.
func TestNothingToRelease(t *testing.T) {
	done := 0
	everyChange(t, func(c change) {
		for who := 1; who <= c.greatest+1; who++ {
			if _, waits := c.is.Waits(who); waits || c.is.Held(who) != 0 {
				continue
			}
			done++
			l := c.is.Copy()
			if granted, e := l.Drop(who); len(granted) > 0 || e != api.OK || tell(l) != tell(c.is) {
				t.Fatalf("Drop(%d) = %v, %d: %s, was %s", who, granted, e, tell(l), tell(c.is))
			}
		}
	})
	if done < 5000 {
		t.Error("done:", done)
	}
}

// P14.1: a request takes nothing from anybody, and adds to the one whose it is at most its mode, or its place at the end of the queue.
func TestRequests(t *testing.T) {
	has, more, waits := 0, 0, 0
	everyChange(t, func(c change) {
		if c.free || c.e != api.OK {
			return
		}
		for _, other := range c.others() {
			if c.is.Held(other) != c.was.Held(other) || mode(c.is, other) != mode(c.was, other) {
				t.Fatalf("%d requests %d, %d: %s, was %s", c.who, c.mode, other, tell(c.is), tell(c.was))
			}
		}
		row, held := c.was.Row(), c.was.Held(c.who)
		switch _, waited := c.was.Waits(c.who); {
		case modes.Covers(c.class.is, held, c.mode):
			has++
			if !c.has {
				t.Fatalf("%d has %d: %s", c.who, c.mode, tell(c.was))
			}
		case c.has:
			more++
			held |= set(c.mode)
		case !waited:
			waits++
			row = append(row, c.who)
		}
		if c.is.Held(c.who) != held || !slices.Equal(c.is.Row(), row) {
			t.Fatalf("%d requests %d: %s, was %s", c.who, c.mode, tell(c.is), tell(c.was))
		}
	})
	if has < 1000 || more < 1000 || waits < 1000 {
		t.Error("has:", has, "more:", more, "waits:", waits)
	}
}

// P14.2: rows of steps on a lock and on its copies, in turn: none is visible in another one.
func TestCopies(t *testing.T) {
	for seed := range 40 {
		r, c, greatest := random(1000+seed), classes[seed%2], 3+seed%4
		all, expected := []*queue.Lock{lockOf(t, c.is)}, []*words{{class: c}}
		for n := range 100 {
			if n%25 == 10 {
				from := r.below(len(all))
				all, expected = append(all, all[from].Copy()), append(expected, expected[from].copy())
			}
			k := r.below(len(all))
			do(t, all[k], expected[k], r.step(c, greatest), greatest)
			for k := range all {
				checkWords(t, all[k], expected[k], greatest)
			}
		}
	}
}
