package queue_test

import (
	"math"
	"slices"
	"testing"

	"covenant/api"
	"covenant/modes"
	"covenant/queue"
)

// The modes of Others.
const (
	shared    uint8 = 1
	exclusive uint8 = 2
)

// class is a class, and how many modes it has.
type class struct{ is, last uint8 }

var classes = []class{{modes.Tables, 8}, {modes.Others, 2}}

// modes are the class's, in order.
func (c class) modes() []uint8 {
	var all []uint8
	for mode := uint8(1); mode <= c.last; mode++ {
		all = append(all, mode)
	}
	return all
}

// apart reports whether two modes are incompatible.
func (c class) apart(mode, other uint8) bool { return !modes.Go(c.is, set(mode), other) }

// set is the set of some modes.
func set(list ...uint8) uint16 {
	held := uint16(0)
	for _, mode := range list {
		held |= 1 << mode
	}
	return held
}

// wait is somebody who waits, and the mode in which it does.
type wait struct {
	who  int
	mode uint8
}

// nobody are numbers that are nobody's.
func nobody() []int { return []int{0, -1, -2, math.MinInt32, math.MinInt} }

// lockOf is a lock for which some requests were made, one after another.
func lockOf(t *testing.T, c uint8, requests ...wait) *queue.Lock {
	t.Helper()
	l, e := queue.New(c)
	if e != api.OK {
		t.Fatal(e)
	}
	for _, r := range requests {
		if _, e := l.Ask(r.who, r.mode); e != api.OK {
			t.Errorf("Ask(%d, %d): %d", r.who, r.mode, e)
		}
	}
	return l
}

func checkAsk(t *testing.T, l *queue.Lock, who int, mode uint8, want bool) {
	t.Helper()
	if is, e := l.Ask(who, mode); is != want || e != api.OK {
		t.Errorf("Ask(%d, %d) = %v, %d, want %v", who, mode, is, e, want)
	}
}

func checkDrop(t *testing.T, l *queue.Lock, who int, want ...int) {
	t.Helper()
	if granted, e := l.Drop(who); !slices.Equal(granted, want) || e != api.OK {
		t.Errorf("Drop(%d) = %v, %d, want %v", who, granted, e, want)
	}
}

func checkFor(t *testing.T, l *queue.Lock, who int, want ...int) {
	t.Helper()
	if got := l.For(who); !slices.Equal(got, want) {
		t.Errorf("For(%d) = %v, want %v", who, got, want)
	}
}

// holds are the modes in which each holder holds a lock.
type holds = map[int]uint16

// checkLock checks who holds a lock, in which modes, and who waits for it, in which order; numbers are below 20.
func checkLock(t *testing.T, l *queue.Lock, held holds, row ...wait) {
	t.Helper()
	var holders, waiting []int
	for who := range held {
		holders = append(holders, who)
	}
	slices.Sort(holders)
	for _, w := range row {
		waiting = append(waiting, w.who)
	}
	if got := l.Holders(); !slices.Equal(got, holders) {
		t.Errorf("Holders() = %v, want %v", got, holders)
	}
	if got := l.Row(); !slices.Equal(got, waiting) {
		t.Errorf("Row() = %v, want %v", got, waiting)
	}
	if got, want := l.Idle(), len(held) == 0 && len(row) == 0; got != want {
		t.Errorf("Idle() = %v", got)
	}
	for who := -2; who < 20; who++ {
		if got := l.Held(who); got != held[who] {
			t.Errorf("Held(%d) = %b, want %b", who, got, held[who])
		}
		want, waits := uint8(0), slices.Index(waiting, who)
		if waits >= 0 {
			want = row[waits].mode
		}
		if mode, is := l.Waits(who); mode != want || is != (waits >= 0) {
			t.Errorf("Waits(%d) = %d, %v, want %d, %v", who, mode, is, want, waits >= 0)
		}
		if waits < 0 {
			checkFor(t, l, who)
		}
	}
}

// The chapter's examples: a lock of Others.
func TestExampleOfOthers(t *testing.T) {
	l := lockOf(t, modes.Others)
	checkAsk(t, l, 1, shared, true)
	checkAsk(t, l, 2, shared, true)
	checkAsk(t, l, 3, exclusive, false)
	checkAsk(t, l, 4, shared, false)
	checkFor(t, l, 4, 3)
	checkAsk(t, l, 1, exclusive, false)
	checkFor(t, l, 1, 2)
	checkLock(t, l, holds{1: set(1), 2: set(1)}, wait{3, 2}, wait{4, 1}, wait{1, 2})
	checkDrop(t, l, 2, 1)
	checkLock(t, l, holds{1: set(1, 2)}, wait{3, 2}, wait{4, 1})
}

// The chapter's examples: a lock of Tables.
func TestExampleOfTables(t *testing.T) {
	l := lockOf(t, modes.Tables)
	checkAsk(t, l, 1, 3, true)
	checkAsk(t, l, 2, 3, true)
	checkAsk(t, l, 3, 8, false)
	checkAsk(t, l, 1, 8, false)
	checkFor(t, l, 1, 2)
	checkFor(t, l, 3, 1, 2)
	checkLock(t, l, holds{1: set(3), 2: set(3)}, wait{3, 8}, wait{1, 8})
}

// P14.1, P14.2: a lock that is new has no holders, and no waiters.
func TestNew(t *testing.T) {
	for _, c := range classes {
		l, e := queue.New(c.is)
		if l == nil || e != api.OK {
			t.Fatal(c.is, e)
		}
		checkLock(t, l, nil)
		for who := range 5 {
			checkDrop(t, l, who+1)
		}
		checkLock(t, l, nil)
		checkLock(t, l.Copy(), nil)
	}
}

// P14.1: a class that there is not has no locks.
func TestNoClass(t *testing.T) {
	for c := range 256 {
		if c == int(modes.Tables) || c == int(modes.Others) {
			continue
		}
		if l, e := queue.New(uint8(c)); l != nil || e != api.ErrArg {
			t.Errorf("New(%d) = %v, %d", c, l, e)
		}
	}
}

// inUse is a lock of any class that 1 and 2 hold, for which 3, 1 and 4 wait.
func inUse(t *testing.T, c uint8) *queue.Lock {
	t.Helper()
	last := uint8(8)
	if c == modes.Others {
		last = 2
	}
	l := lockOf(t, c, wait{1, 1}, wait{2, 1}, wait{3, last}, wait{1, last}, wait{4, 1})
	checkLock(t, l, holds{1: set(1), 2: set(1)}, wait{3, last}, wait{1, last}, wait{4, 1})
	return l
}

// P14.1: what is no mode of the lock's class is refused, whoever requests it, and nothing is changed.
func TestNoMode(t *testing.T) {
	for _, c := range classes {
		for _, l := range []*queue.Lock{lockOf(t, c.is), lockOf(t, c.is, wait{1, c.last}), inUse(t, c.is)} {
			was := tell(l)
			for mode := range 256 {
				if mode >= 1 && mode <= int(c.last) {
					continue
				}
				for _, who := range append(nobody(), 1, 2, 3, 4, 5, math.MaxInt) {
					if is, e := l.Ask(who, uint8(mode)); is || e != api.ErrArg {
						t.Errorf("class %d: Ask(%d, %d) = %v, %d", c.is, who, mode, is, e)
					}
				}
			}
			if tell(l) != was {
				t.Errorf("class %d: %s, was %s", c.is, tell(l), was)
			}
		}
	}
}

// P14.1, P14.2: who is below 1 is refused, in each mode, holds nothing, and waits for nobody; nothing is changed.
func TestNobody(t *testing.T) {
	for _, c := range classes {
		for _, l := range []*queue.Lock{lockOf(t, c.is), lockOf(t, c.is, wait{1, c.last}), inUse(t, c.is)} {
			was := tell(l)
			for _, who := range nobody() {
				for _, mode := range append(c.modes(), 0, 15, 16, 255) {
					if is, e := l.Ask(who, mode); is || e != api.ErrArg {
						t.Errorf("class %d: Ask(%d, %d) = %v, %d", c.is, who, mode, is, e)
					}
				}
				if granted, e := l.Drop(who); len(granted) > 0 || e != api.ErrArg {
					t.Errorf("class %d: Drop(%d) = %v, %d", c.is, who, granted, e)
				}
				if mode, is := l.Waits(who); l.Held(who) != 0 || mode != 0 || is {
					t.Errorf("class %d: %d holds %b, waits %d, %v", c.is, who, l.Held(who), mode, is)
				}
				checkFor(t, l, who)
			}
			if tell(l) != was {
				t.Errorf("class %d: %s, was %s", c.is, tell(l), was)
			}
		}
	}
}

// P14.1: the least and the greatest of those who may request hold, wait and release like all others.
func TestEdgesOfWho(t *testing.T) {
	l := lockOf(t, modes.Others)
	checkAsk(t, l, math.MaxInt, exclusive, true)
	checkAsk(t, l, 1, exclusive, false)
	checkFor(t, l, 1, math.MaxInt)
	checkDrop(t, l, math.MaxInt, 1)
	checkAsk(t, l, math.MaxInt, shared, false)
	checkFor(t, l, math.MaxInt, 1)
	checkDrop(t, l, 1, math.MaxInt)
	if l.Held(math.MaxInt) != set(1) || l.Held(1) != 0 {
		t.Error(tell(l))
	}
	checkDrop(t, l, math.MaxInt)
	checkLock(t, l, nil)
}

// P14.1, P14.2: of nil there is nothing, and what changes a lock is ErrNil, whatever else would be refused.
func TestNil(t *testing.T) {
	var l *queue.Lock
	for _, who := range append(nobody(), 1, 2, math.MaxInt) {
		for _, mode := range []uint8{0, 1, 2, 8, 9, 15, 16, 255} {
			if is, e := l.Ask(who, mode); is || e != api.ErrNil {
				t.Errorf("Ask(%d, %d) = %v, %d", who, mode, is, e)
			}
		}
		if granted, e := l.Drop(who); len(granted) > 0 || e != api.ErrNil {
			t.Errorf("Drop(%d) = %v, %d", who, granted, e)
		}
		if mode, is := l.Waits(who); l.Held(who) != 0 || mode != 0 || is {
			t.Errorf("%d holds %b, waits %d, %v", who, l.Held(who), mode, is)
		}
		checkFor(t, l, who)
	}
	if len(l.Holders()) > 0 || len(l.Row()) > 0 || !l.Idle() || l.Copy() != nil {
		t.Error(l.Holders(), l.Row(), l.Idle(), l.Copy())
	}
}

// P14.1: a lock that was not made by New has no class, so it has no modes: nobody ever holds it.
func TestNotMade(t *testing.T) {
	for _, l := range []*queue.Lock{{}, (&queue.Lock{}).Copy()} {
		for mode := range 256 {
			if is, e := l.Ask(1, uint8(mode)); is || e != api.ErrArg {
				t.Errorf("Ask(1, %d) = %v, %d", mode, is, e)
			}
		}
		checkDrop(t, l, 1)
		checkLock(t, l, nil)
	}
}

// P14.1, P14.2: who holds a lock alone is granted each mode; what is covered adds nothing to what is held.
func TestAlone(t *testing.T) {
	covered, more := 0, 0
	for _, c := range classes {
		for _, first := range c.modes() {
			for _, second := range c.modes() {
				for _, third := range c.modes() {
					l, held := lockOf(t, c.is), uint16(0)
					for _, mode := range []uint8{first, second, third, third, first} {
						checkAsk(t, l, 7, mode, true)
						if modes.Covers(c.is, held, mode) {
							covered++
						} else {
							held = modes.With(held, mode)
							more++
						}
						checkLock(t, l, holds{7: held})
					}
					checkDrop(t, l, 7)
					checkLock(t, l, nil)
				}
			}
		}
	}
	if covered < 500 || more < 500 {
		t.Error("covered:", covered, "more:", more)
	}
}

// P14.1, P14.2: some modes of one who holds a lock alone, one by one.
func TestAloneModeByMode(t *testing.T) {
	l := lockOf(t, modes.Tables)
	for _, x := range []struct {
		mode uint8
		held uint16
	}{
		{1, set(1)}, {1, set(1)}, {3, set(1, 3)}, {2, set(1, 3)}, {5, set(1, 3, 5)},
		{6, set(1, 3, 5)}, {4, set(1, 3, 5)}, {7, set(1, 3, 5, 7)}, {8, set(1, 3, 5, 7, 8)}, {7, set(1, 3, 5, 7, 8)},
	} {
		checkAsk(t, l, 1, x.mode, true)
		checkLock(t, l, holds{1: x.held})
	}
	l = lockOf(t, modes.Others, wait{1, exclusive})
	checkAsk(t, l, 1, shared, true)
	checkLock(t, l, holds{1: set(2)})
	l = lockOf(t, modes.Others, wait{1, shared})
	checkAsk(t, l, 1, exclusive, true)
	checkLock(t, l, holds{1: set(1, 2)})
}

// P14.1, P14.2: each mode of one, and each mode of another one, who holds nothing: it holds the lock exactly if the modes are compatible.
func TestTwo(t *testing.T) {
	for _, c := range classes {
		for _, one := range c.modes() {
			for _, other := range c.modes() {
				l := lockOf(t, c.is)
				checkAsk(t, l, 2, one, true)
				if c.apart(one, other) {
					checkAsk(t, l, 1, other, false)
					checkLock(t, l, holds{2: set(one)}, wait{1, other})
					checkFor(t, l, 1, 2)
					checkDrop(t, l, 2, 1)
				} else {
					checkAsk(t, l, 1, other, true)
					checkLock(t, l, holds{2: set(one), 1: set(other)})
					checkDrop(t, l, 2)
				}
				checkLock(t, l, holds{1: set(other)})
			}
		}
	}
}

// P14.1, P14.2: who holds nothing is blocked by a holder, by one who waits alone, by both, or by neither.
func TestHoldsNothing(t *testing.T) {
	for _, x := range []struct {
		held, waited, asked uint8
		by                  []int
	}{
		{3, 8, 5, []int{1, 2}}, {3, 8, 8, []int{1, 2}}, {5, 3, 4, []int{1}}, {5, 3, 3, []int{1}}, {4, 5, 4, []int{1, 2}},
		{3, 5, 3, []int{2}}, {3, 5, 4, []int{2}}, {1, 8, 1, []int{2}}, {1, 8, 7, []int{2}}, {2, 7, 2, []int{2}},
		{3, 5, 1, nil}, {3, 5, 2, nil}, {2, 7, 1, nil}, {4, 4, 3, nil}, {5, 4, 5, []int{2}}, {5, 4, 2, nil},
	} {
		l := lockOf(t, modes.Tables)
		checkAsk(t, l, 1, x.held, true)
		checkAsk(t, l, 2, x.waited, false)
		checkAsk(t, l, 3, x.asked, len(x.by) == 0)
		checkFor(t, l, 2, 1)
		checkFor(t, l, 3, x.by...)
		if len(x.by) == 0 {
			checkLock(t, l, holds{1: set(x.held), 3: set(x.asked)}, wait{2, x.waited})
		} else {
			checkLock(t, l, holds{1: set(x.held)}, wait{2, x.waited}, wait{3, x.asked})
		}
	}
}

// P14.1: what others wait for blocks who holds nothing, also where it stands amid the queue, and where whoever waits holds something.
func TestBlockedByAnyWaiter(t *testing.T) {
	l := lockOf(t, modes.Tables, wait{1, 3}, wait{2, 3}, wait{3, 5}, wait{1, 4}, wait{4, 6})
	checkLock(t, l, holds{1: set(3, 4), 2: set(3)}, wait{3, 5}, wait{4, 6})
	l = lockOf(t, modes.Tables, wait{1, 1}, wait{2, 2}, wait{3, 7}, wait{1, 8}, wait{4, 5}, wait{5, 1})
	checkLock(t, l, holds{1: set(1), 2: set(2)}, wait{3, 7}, wait{1, 8}, wait{4, 5}, wait{5, 1})
	checkFor(t, l, 1, 2)
	checkFor(t, l, 3, 2)
	checkFor(t, l, 4, 1, 3)
	checkFor(t, l, 5, 1)
	l = lockOf(t, modes.Others, wait{1, shared}, wait{2, shared}, wait{1, exclusive}, wait{3, shared})
	checkLock(t, l, holds{1: set(1), 2: set(1)}, wait{1, 2}, wait{3, 1})
	checkFor(t, l, 3, 1)
}

// P14.1, P14.2: who holds something is blocked by other holders alone, and passes those who wait.
func TestHoldsSomething(t *testing.T) {
	l := lockOf(t, modes.Others, wait{1, shared}, wait{2, exclusive}, wait{3, shared})
	checkAsk(t, l, 1, exclusive, true)
	checkLock(t, l, holds{1: set(1, 2)}, wait{2, 2}, wait{3, 1})
	checkFor(t, l, 2, 1)
	checkFor(t, l, 3, 1, 2)
	l = lockOf(t, modes.Tables, wait{1, 3}, wait{2, 1}, wait{3, 8}, wait{4, 5})
	checkAsk(t, l, 2, 3, true)
	checkAsk(t, l, 2, 5, false)
	checkFor(t, l, 2, 1)
	checkAsk(t, l, 1, 4, true)
	checkLock(t, l, holds{1: set(3, 4), 2: set(1, 3)}, wait{3, 8}, wait{4, 5}, wait{2, 5})
	checkFor(t, l, 3, 1, 2)
	checkFor(t, l, 4, 1, 2, 3)
	checkFor(t, l, 2, 1)
	checkAsk(t, l, 1, 7, false)
	checkFor(t, l, 1, 2)
	checkFor(t, l, 2, 1)
}

// P14.1: who waits is told so, in whatever mode it requests the lock again; but what its own modes cover it has. Neither changes anything.
func TestWaitsAlready(t *testing.T) {
	for _, c := range classes {
		l := inUse(t, c.is)
		was := tell(l)
		for _, mode := range c.modes() {
			checkAsk(t, l, 3, mode, false)
			checkAsk(t, l, 4, mode, false)
			checkAsk(t, l, 1, mode, mode == 1)
			if tell(l) != was {
				t.Fatalf("class %d: %s, was %s", c.is, tell(l), was)
			}
		}
	}
	l := lockOf(t, modes.Tables, wait{1, 3}, wait{2, 3}, wait{1, 8}, wait{3, 5})
	for _, mode := range []uint8{1, 2, 3, 4, 5, 6, 7, 8} {
		checkAsk(t, l, 1, mode, mode <= 3)
		checkAsk(t, l, 3, mode, false)
	}
	checkLock(t, l, holds{1: set(3), 2: set(3)}, wait{1, 8}, wait{3, 5})
	checkDrop(t, l, 2, 1)
	checkLock(t, l, holds{1: set(3, 8)}, wait{3, 5})
}

// P14.1, P14.2: a release by a holder, by one who waits alone, by one who does both, and by one who does neither.
func TestDropOfEach(t *testing.T) {
	for _, c := range classes {
		high := c.last
		l := inUse(t, c.is)
		checkDrop(t, l, 5)
		checkLock(t, l, holds{1: set(1), 2: set(1)}, wait{3, high}, wait{1, high}, wait{4, 1})
		checkDrop(t, l, 2, 1)
		checkLock(t, l, holds{1: set(1, high)}, wait{3, high}, wait{4, 1})
		l = inUse(t, c.is)
		checkDrop(t, l, 3)
		checkLock(t, l, holds{1: set(1), 2: set(1)}, wait{1, high}, wait{4, 1})
		checkDrop(t, l, 3)
		checkLock(t, l, holds{1: set(1), 2: set(1)}, wait{1, high}, wait{4, 1})
		l = inUse(t, c.is)
		checkDrop(t, l, 1)
		checkLock(t, l, holds{2: set(1)}, wait{3, high}, wait{4, 1})
		checkFor(t, l, 3, 2)
		checkFor(t, l, 4, 3)
		l = inUse(t, c.is)
		checkDrop(t, l, 4)
		checkLock(t, l, holds{1: set(1), 2: set(1)}, wait{3, high}, wait{1, high})
	}
}

// P14.1: who has released a lock may hold it anew, from nothing on.
func TestAfterDrop(t *testing.T) {
	l := lockOf(t, modes.Tables, wait{1, 3}, wait{1, 5}, wait{2, 1})
	checkDrop(t, l, 1)
	checkLock(t, l, holds{2: set(1)})
	checkAsk(t, l, 1, 1, true)
	checkLock(t, l, holds{1: set(1), 2: set(1)})
	checkAsk(t, l, 1, 8, false)
	checkDrop(t, l, 1)
	checkAsk(t, l, 1, 8, false)
	checkLock(t, l, holds{2: set(1)}, wait{1, 8})
	checkDrop(t, l, 1)
	checkAsk(t, l, 1, 7, true)
	checkLock(t, l, holds{1: set(7), 2: set(1)})
}

// P14.1: a release by which nobody is granted the lock, one, or several, in the order of the queue.
func TestDropGrants(t *testing.T) {
	l := lockOf(t, modes.Others, wait{5, exclusive}, wait{9, shared}, wait{2, shared}, wait{7, exclusive}, wait{1, shared}, wait{3, exclusive})
	checkDrop(t, l, 5, 9, 2)
	checkLock(t, l, holds{9: set(1), 2: set(1)}, wait{7, 2}, wait{1, 1}, wait{3, 2})
	checkDrop(t, l, 9)
	checkLock(t, l, holds{2: set(1)}, wait{7, 2}, wait{1, 1}, wait{3, 2})
	checkDrop(t, l, 2, 7)
	checkLock(t, l, holds{7: set(2)}, wait{1, 1}, wait{3, 2})
	checkDrop(t, l, 7, 1)
	checkDrop(t, l, 1, 3)
	checkDrop(t, l, 3)
	checkLock(t, l, nil)
	// Those who are granted it stand apart in the queue.
	l = lockOf(t, modes.Tables, wait{9, 8}, wait{8, 3}, wait{7, 5}, wait{6, 1}, wait{5, 3}, wait{4, 2}, wait{3, 6})
	checkDrop(t, l, 9, 8, 6, 4)
	checkLock(t, l, holds{8: set(3), 6: set(1), 4: set(2)}, wait{7, 5}, wait{5, 3}, wait{3, 6})
	checkFor(t, l, 7, 8)
	checkFor(t, l, 5, 7)
	checkFor(t, l, 3, 5, 7, 8)
	checkDrop(t, l, 8, 7)
	checkDrop(t, l, 7, 5)
	checkDrop(t, l, 5, 3)
	checkLock(t, l, holds{6: set(1), 4: set(2), 3: set(6)})
}

// P14.1: who holds something is granted more by a release, ahead of those who waited before it.
func TestDropGrantsHolders(t *testing.T) {
	l := lockOf(t, modes.Others, wait{1, shared}, wait{2, shared}, wait{3, exclusive}, wait{4, shared}, wait{2, exclusive})
	checkDrop(t, l, 1, 2)
	checkLock(t, l, holds{2: set(1, 2)}, wait{3, 2}, wait{4, 1})
	checkDrop(t, l, 2, 3)
	checkDrop(t, l, 3, 4)
	l = lockOf(t, modes.Tables, wait{1, 4}, wait{2, 1}, wait{3, 1}, wait{4, 8}, wait{3, 5}, wait{2, 5}, wait{5, 1})
	checkLock(t, l, holds{1: set(4), 2: set(1), 3: set(1)}, wait{4, 8}, wait{3, 5}, wait{2, 5}, wait{5, 1})
	checkDrop(t, l, 1, 3, 2)
	checkLock(t, l, holds{2: set(1, 5), 3: set(1, 5)}, wait{4, 8}, wait{5, 1})
	checkFor(t, l, 5, 4)
	// Two who hold something, and wait for one another, are granted nothing until one of them releases it.
	l = lockOf(t, modes.Others, wait{1, shared}, wait{2, shared}, wait{3, shared}, wait{1, exclusive}, wait{2, exclusive})
	checkDrop(t, l, 3)
	checkFor(t, l, 1, 2)
	checkFor(t, l, 2, 1)
	checkDrop(t, l, 1, 2)
	checkLock(t, l, holds{2: set(1, 2)})
}

// P14.1: somebody is granted a lock because somebody who waited ahead of it waits no longer.
func TestDropOfWaiterGrants(t *testing.T) {
	l := lockOf(t, modes.Others, wait{1, shared}, wait{2, exclusive}, wait{4, shared}, wait{3, shared}, wait{5, exclusive}, wait{6, shared})
	checkDrop(t, l, 2, 4, 3)
	checkLock(t, l, holds{1: set(1), 3: set(1), 4: set(1)}, wait{5, 2}, wait{6, 1})
	checkDrop(t, l, 5, 6)
	checkLock(t, l, holds{1: set(1), 3: set(1), 4: set(1), 6: set(1)})
	l = lockOf(t, modes.Tables, wait{1, 3}, wait{2, 8}, wait{3, 5}, wait{4, 3}, wait{5, 2})
	checkDrop(t, l, 2, 5)
	checkLock(t, l, holds{1: set(3), 5: set(2)}, wait{3, 5}, wait{4, 3})
	checkDrop(t, l, 3, 4)
	checkLock(t, l, holds{1: set(3), 4: set(3), 5: set(2)})
	// One who holds something and waits, and whose place in the queue alone was in the way.
	l = lockOf(t, modes.Others, wait{1, shared}, wait{2, shared}, wait{1, exclusive}, wait{3, shared}, wait{4, shared})
	checkDrop(t, l, 1, 3, 4)
	checkLock(t, l, holds{2: set(1), 3: set(1), 4: set(1)})
}

// P14.2: For of those who wait for holders, for those who wait before them, and for both, each once, in increasing order, whatever the order in which they came.
func TestFor(t *testing.T) {
	l := lockOf(t, modes.Tables, wait{9, 1}, wait{4, 3}, wait{7, 3}, wait{2, 1})
	for _, r := range []wait{{8, 7}, {5, 8}, {7, 8}, {3, 2}, {1, 1}, {6, 4}} {
		checkAsk(t, l, r.who, r.mode, false)
	}
	checkLock(t, l, holds{2: set(1), 4: set(3), 7: set(3), 9: set(1)}, wait{8, 7}, wait{5, 8}, wait{7, 8}, wait{3, 2}, wait{1, 1}, wait{6, 4})
	checkFor(t, l, 8, 4, 7)
	checkFor(t, l, 5, 2, 4, 7, 8, 9)
	checkFor(t, l, 7, 2, 4, 9)
	checkFor(t, l, 3, 5, 7, 8)
	checkFor(t, l, 1, 5, 7)
	checkFor(t, l, 6, 5, 7, 8)
	for _, who := range []int{2, 4, 9, 10, 0, -1, math.MinInt, math.MaxInt} {
		checkFor(t, l, who)
	}
	// One who holds the lock, and waits before: both are in the way, it is told once.
	l = lockOf(t, modes.Tables, wait{2, 3}, wait{3, 3}, wait{1, 1}, wait{2, 5}, wait{1, 3}, wait{4, 6})
	checkFor(t, l, 2, 1, 3)
	checkFor(t, l, 1)
	checkFor(t, l, 4, 1, 2, 3)
	checkDrop(t, l, 3)
	checkFor(t, l, 2, 1)
	checkFor(t, l, 4, 1, 2)
}

// P14.2: a holder is told by all of its modes, not by one of them.
func TestForSeveralModes(t *testing.T) {
	l := lockOf(t, modes.Tables, wait{1, 3}, wait{1, 4}, wait{2, 1}, wait{3, 4}, wait{4, 3}, wait{5, 5})
	checkLock(t, l, holds{1: set(3, 4), 2: set(1), 4: set(3)}, wait{3, 4}, wait{5, 5})
	checkFor(t, l, 3, 1)
	checkFor(t, l, 5, 1, 3, 4)
	l = lockOf(t, modes.Tables, wait{1, 1}, wait{1, 7}, wait{2, 1}, wait{3, 2}, wait{4, 8})
	checkFor(t, l, 3, 1)
	checkFor(t, l, 4, 1, 2, 3)
}

// P14.2: holders stand in increasing order, those who wait in the order of the queue, whatever the order in which they came.
func TestOrder(t *testing.T) {
	for seed := range 20 {
		r := random(seed)
		var came []int
		for len(came) < 15 {
			if who := 1 + r.below(30); !slices.Contains(came, who) {
				came = append(came, who)
			}
		}
		l := lockOf(t, modes.Others)
		for _, who := range came {
			checkAsk(t, l, who, shared, true)
		}
		if got, want := l.Holders(), slices.Sorted(slices.Values(came)); !slices.Equal(got, want) {
			t.Errorf("Holders() = %v, want %v", got, want)
		}
		l = lockOf(t, modes.Others, wait{40, exclusive})
		for _, who := range came {
			checkAsk(t, l, who, shared, false)
			checkFor(t, l, who, 40)
		}
		if got := l.Row(); !slices.Equal(got, came) {
			t.Errorf("Row() = %v, want %v", got, came)
		}
		checkDrop(t, l, 40, came...)
	}
}

// P14.2: a lock is idle before anybody requests it, and when all have released it.
func TestIdle(t *testing.T) {
	checkIdle := func(l *queue.Lock, want bool) {
		t.Helper()
		if l.Idle() != want {
			t.Errorf("Idle() = %v", !want)
		}
	}
	for _, c := range classes {
		l := lockOf(t, c.is)
		checkIdle(l, true)
		for round := range 2 {
			checkAsk(t, l, 1, c.last, true)
			checkIdle(l, false)
			checkAsk(t, l, 2, 1, false)
			checkIdle(l, false)
			checkDrop(t, l, 3)
			checkIdle(l, false)
			checkDrop(t, l, 1+round, [][]int{{2}, {}}[round]...)
			checkIdle(l, false)
			checkDrop(t, l, 2-round)
			checkIdle(l, true)
		}
	}
}

// P14.2: a lock and its copy, changed on either side: neither is visible in the other one.
func TestCopy(t *testing.T) {
	for _, c := range classes {
		for side := range 2 {
			l := inUse(t, c.is)
			sides := []*queue.Lock{l, l.Copy()}
			one, other := sides[side], sides[1-side]
			was := tell(one)
			if tell(other) != was {
				t.Fatalf("class %d: %s, was %s", c.is, tell(other), was)
			}
			checkAsk(t, one, 5, c.last, false)
			checkDrop(t, one, 3)
			checkDrop(t, one, 2, 1)
			checkLock(t, one, holds{1: set(1, c.last)}, wait{4, 1}, wait{5, c.last})
			if tell(other) != was {
				t.Fatalf("class %d: %s, was %s", c.is, tell(other), was)
			}
			checkAsk(t, other, 6, 1, false)
			checkDrop(t, other, 1)
			checkAsk(t, other, 2, c.last, true)
			checkLock(t, other, holds{2: set(1, c.last)}, wait{3, c.last}, wait{4, 1}, wait{6, 1})
			checkLock(t, one, holds{1: set(1, c.last)}, wait{4, 1}, wait{5, c.last})
			for _, who := range []int{1, 4, 5} {
				if _, e := one.Drop(who); e != api.OK {
					t.Error(e)
				}
			}
			checkLock(t, one, nil)
			checkLock(t, other, holds{2: set(1, c.last)}, wait{3, c.last}, wait{4, 1}, wait{6, 1})
		}
	}
}

// P14.2: a copy of a lock that nobody holds, and of a copy, goes its own way, and is of the same class.
func TestCopyOfCopies(t *testing.T) {
	for _, c := range classes {
		bare := lockOf(t, c.is)
		one := bare.Copy()
		if _, e := one.Ask(1, c.last+1); e != api.ErrArg {
			t.Errorf("class %d: %d", c.is, e)
		}
		checkAsk(t, one, 1, c.last, true)
		checkLock(t, bare, nil)
		two := one.Copy().Copy()
		checkAsk(t, two, 2, 1, false)
		checkAsk(t, one, 3, c.last, false)
		checkLock(t, bare, nil)
		checkLock(t, one, holds{1: set(c.last)}, wait{3, c.last})
		checkLock(t, two, holds{1: set(c.last)}, wait{2, 1})
	}
}

// P14.2: those who wait on a lock and on its copy don't take one place.
func TestCopyWithRoom(t *testing.T) {
	for length := range 10 {
		l := lockOf(t, modes.Others, wait{1, exclusive})
		for n := range length {
			checkAsk(t, l, 2+n, exclusive, false)
		}
		twin := l.Copy()
		checkAsk(t, l, 18, shared, false)
		checkAsk(t, twin, 19, exclusive, false)
		if row := l.Row(); row[length] != 18 {
			t.Error(row)
		}
		if row := twin.Row(); row[length] != 19 {
			t.Error(row)
		}
	}
}

// spoil writes over all numbers of a list, and what it has room for.
func spoil(list []int) {
	list = append(list, 77)
	for i := range list[:cap(list)] {
		list[:cap(list)][i] = 77
	}
}

// P14.1, P14.2: what was answered may be written over, and added to, without a change of the lock, or of another answer.
func TestOwnLists(t *testing.T) {
	l := lockOf(t, modes.Others, wait{1, exclusive}, wait{5, shared}, wait{3, shared}, wait{4, exclusive}, wait{2, shared}, wait{6, exclusive})
	granted, _ := l.Drop(1)
	was, twin := tell(l), l.Copy()
	answers := func() [][]int { return [][]int{l.Holders(), l.Row(), l.For(4), l.For(2), l.For(6)} }
	first := answers()
	spoil(granted)
	for range 3 {
		for _, list := range answers() {
			spoil(list)
		}
		if tell(l) != was || tell(twin) != was {
			t.Fatalf("%s, %s, was %s", tell(l), tell(twin), was)
		}
	}
	for i, want := range [][]int{{3, 5}, {4, 2, 6}, {3, 5}, {4}, {2, 3, 4, 5}} {
		if !slices.Equal(first[i], want) {
			t.Errorf("an answer changed: %v, was %v", first[i], want)
		}
	}
	row, holders := l.Row(), l.Holders()
	checkDrop(t, l, 4, 2)
	checkDrop(t, l, 5)
	if !slices.Equal(row, []int{4, 2, 6}) || !slices.Equal(holders, []int{3, 5}) {
		t.Error("an answer changed:", row, holders)
	}
	granted, _ = l.Drop(3)
	spoil(granted)
	checkLock(t, l, holds{2: set(1)}, wait{6, 2})
}

// P14.1, P14.5: very many wait, are granted the lock in the order of the queue, and release it.
func TestMany(t *testing.T) {
	const many = 3000
	l := lockOf(t, modes.Others, wait{many + 1, exclusive})
	var came []int
	for n := range many {
		// 7 does not divide many, so that each number comes once, in an order of its own.
		came = append(came, 1+n*7%many)
		checkAsk(t, l, came[n], shared, false)
	}
	if !slices.Equal(l.Row(), came) {
		t.Error("the queue is another one")
	}
	checkDrop(t, l, many+1, came...)
	if len(l.Row()) > 0 || !slices.Equal(l.Holders(), slices.Sorted(slices.Values(came))) {
		t.Error("not all hold it")
	}
	for _, who := range came {
		checkDrop(t, l, who)
	}
	checkLock(t, l, nil)
}
