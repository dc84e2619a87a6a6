package sight_test

import (
	"math"
	"reflect"
	"slices"
	"strconv"
	"strings"
	"testing"

	"covenant/api"
	"covenant/heap"
	"covenant/sight"
	"covenant/snap"
	"covenant/xid"
)

// top is the greatest number of a table, and the greatest ID of a row.
const top = 1<<31 - 1

// none stands for the slot of a version that there is not.
const none = -1

// outside are numbers that are no table's, and no row's.
func outside() []int {
	return []int{0, -1, -2, -top, math.MinInt, top + 1, 1 << 32, 1<<32 + 1, math.MaxInt}
}

// nowhere are slots that there are not, where there are n.
func nowhere(n int) []int {
	return []int{-1, -2, -n - 1, -1 << 32, math.MinInt, n, n + 1, 2*n + 5, top, n + 1<<32, math.MaxInt}
}

// play does steps, none of which may be refused: Begin (b), Commit (c) and Abort (a), as in "b0 b1 c2 a1".
func play(t *testing.T, x *xid.Table, text string) {
	t.Helper()
	for _, word := range strings.Fields(text) {
		id, err := strconv.Atoi(word[1:])
		e := api.ErrForm
		switch word[0] {
		case 'b':
			_, e = x.Begin(id)
		case 'c':
			e = x.Commit(id)
		case 'a':
			e = x.Abort(id)
		}
		if err != nil || e != api.OK {
			t.Fatal(word, err, e)
		}
	}
}

// tableOf is a table on which steps were done.
func tableOf(t *testing.T, text string) *xid.Table {
	t.Helper()
	x := xid.New()
	play(t, x, text)
	return x
}

// made is a version by its Min and its Max.
type made struct{ min, max int }

// put puts versions of a row, one behind another, and answers their slots.
func put(t *testing.T, h *heap.Heap, no, id int, versions ...made) []int {
	t.Helper()
	var slots []int
	for _, m := range versions {
		slot, e := h.Put(heap.Tuple{No: no, ID: id, Min: m.min, Max: m.max})
		if e != api.OK {
			t.Fatal("Put:", no, id, m, e)
		}
		slots = append(slots, slot)
	}
	return slots
}

// heapOf is a heap with versions of the row 1 of table 1, in slots from 0 on.
func heapOf(t *testing.T, versions ...made) *heap.Heap {
	t.Helper()
	h := heap.New()
	put(t, h, 1, 1, versions...)
	return h
}

func free(t *testing.T, h *heap.Heap, slots ...int) {
	t.Helper()
	for _, slot := range slots {
		if e := h.Free(slot); e != api.OK {
			t.Fatal("Free:", slot, e)
		}
	}
}

func kill(t *testing.T, h *heap.Heap, slot, by int) {
	t.Helper()
	if e := h.Kill(slot, by, 0); e != api.OK {
		t.Fatal("Kill:", slot, by, e)
	}
}

// slotOf is what Seen or Newest answers, as one number; beside false there is to be 0.
func slotOf(slot int, is bool) int {
	switch {
	case is:
		return slot
	case slot == 0:
		return none
	}
	return math.MinInt
}

func seen(h *heap.Heap, x *xid.Table, v snap.Viewer, no, id int) int {
	return slotOf(sight.Seen(h, x, v, no, id))
}

func newest(h *heap.Heap, x *xid.Table, no, id int) int { return slotOf(sight.Newest(h, x, no, id)) }

func checkSeen(t *testing.T, h *heap.Heap, x *xid.Table, v snap.Viewer, no, id, want int) {
	t.Helper()
	if got := seen(h, x, v, no, id); got != want {
		t.Errorf("%v: Seen(%d, %d) = %d, want %d", v, no, id, got, want)
	}
}

func checkNewest(t *testing.T, h *heap.Heap, x *xid.Table, no, id, want int) {
	t.Helper()
	if got := newest(h, x, no, id); got != want {
		t.Errorf("Newest(%d, %d) = %d, want %d", no, id, got, want)
	}
}

func checkOwn(t *testing.T, h *heap.Heap, x *xid.Table, v snap.Viewer, no, id int, want bool) {
	t.Helper()
	if got := sight.Own(h, x, v, no, id); got != want {
		t.Errorf("%v: Own(%d, %d) = %v", v, no, id, got)
	}
}

func checkFresh(t *testing.T, h *heap.Heap, x *xid.Table, v snap.Viewer, no, id int, want bool) {
	t.Helper()
	if got := sight.Fresh(h, x, v, no, id); got != want {
		t.Errorf("%v: Fresh(%d, %d) = %v", v, no, id, got)
	}
}

func checkIDs(t *testing.T, h *heap.Heap, x *xid.Table, v snap.Viewer, no int, want ...int) {
	t.Helper()
	if got := sight.IDs(h, x, v, no); !slices.Equal(got, want) {
		t.Errorf("%v: IDs(%d) = %v, want %v", v, no, got, want)
	}
}

func checkDead(t *testing.T, h *heap.Heap, x *xid.Table, at, slot int, want bool) {
	t.Helper()
	if got := sight.Dead(h, x, at, slot); got != want {
		t.Errorf("Dead(%d, %d) = %v", at, slot, got)
	}
}

// checkNoRow checks what each call answers of a row of which nobody sees anything.
func checkNoRow(t *testing.T, h *heap.Heap, x *xid.Table, v snap.Viewer, no, id int) {
	t.Helper()
	checkOwn(t, h, x, v, no, id, false)
	checkSeen(t, h, x, v, no, id, none)
	checkNewest(t, h, x, no, id, none)
	checkFresh(t, h, x, v, no, id, true)
}

// viewers are those with each number of commits, up to last, and those beside and far beyond them, as each of some.
func viewers(last int, mes ...int) []snap.Viewer {
	var l []snap.Viewer
	for _, me := range mes {
		for at := -2; at <= last+2; at++ {
			l = append(l, snap.Viewer{At: at, Me: me})
		}
		l = append(l, snap.Viewer{At: math.MinInt, Me: me}, snap.Viewer{At: math.MaxInt, Me: me})
	}
	return l
}

// P12.1: the chapter's example, step by step.
func TestExample(t *testing.T) {
	h, x := heap.New(), tableOf(t, "b0")
	put(t, h, 1, 1, made{1, 0})
	checkSeen(t, h, x, snap.Now(x, 1), 1, 1, 0)
	checkSeen(t, h, x, snap.Now(x, 0), 1, 1, none)
	play(t, x, "b0")
	kill(t, h, 0, 2)
	put(t, h, 1, 1, made{2, 0})
	play(t, x, "c1")
	current, second := snap.Now(x, 0), snap.Now(x, 2)
	checkSeen(t, h, x, current, 1, 1, 0)
	checkSeen(t, h, x, second, 1, 1, 1)
	checkNewest(t, h, x, 1, 1, 0)
	checkFresh(t, h, x, current, 1, 1, true)
	checkFresh(t, h, x, second, 1, 1, true)
	play(t, x, "c2")
	checkSeen(t, h, x, current, 1, 1, 0)
	checkFresh(t, h, x, current, 1, 1, false)
	checkSeen(t, h, x, snap.Now(x, 0), 1, 1, 1)
	checkNewest(t, h, x, 1, 1, 1)
	checkFresh(t, h, x, snap.Now(x, 0), 1, 1, true)
}

// mixture has all that there may be: 1, with 2 and 3 below it, 4, and 13 have committed, with the numbers 1, 2 and 3, but 3 is Gone; 5, with 6, 7 and 8 below it, and 9, with 10, are Running, as is 6, but 7 and 10 are Done, and 8 is Gone; 11 and 12, below it, are Gone.
func mixture(t *testing.T) *xid.Table {
	t.Helper()
	x := tableOf(t, "b0 b1 b1 a3 c1  b0 c4  b0 b5 b5 b5 c7 a8  b0 b9 c10  b0 b11 c12 a11  b0 c13")
	states := "DDG D RRDG RD GG D"
	for id := 1; id <= x.Len(); id++ {
		if "-RDG"[x.State(id)] != strings.ReplaceAll(states, " ", "")[id-1] {
			t.Fatalf("%d: %d", id, x.State(id))
		}
	}
	return x
}

// looks is a viewer on the mixture, and what each transaction of it is to that one, from 0 on, which is none: o its own, s visible otherwise, - neither.
type looks struct {
	snap.Viewer
	marks string
}

// is what a transaction is to the viewer.
func (l looks) is(id int) byte {
	marks := strings.ReplaceAll(l.marks, " ", "")
	if id < 0 || id >= len(marks) {
		return '-'
	}
	return marks[id]
}

func everyLook() []looks {
	return []looks{
		{snap.Viewer{At: 3}, "- ss- s ---- -- -- s"},
		{snap.Viewer{At: 2}, "- ss- s ---- -- -- -"},
		{snap.Viewer{At: 1}, "- ss- - ---- -- -- -"},
		{snap.Viewer{At: 0}, "- --- - ---- -- -- -"},
		{snap.Viewer{At: -1}, "- --- - ---- -- -- -"},
		{snap.Viewer{At: math.MinInt}, "- --- - ---- -- -- -"},
		{snap.Viewer{At: math.MaxInt}, "- ss- s ---- -- -- s"},
		{snap.Viewer{At: 3, Me: 5}, "- ss- s ooo- -- -- s"},
		{snap.Viewer{At: 2, Me: 5}, "- ss- s ooo- -- -- -"},
		{snap.Viewer{At: 0, Me: 5}, "- --- - ooo- -- -- -"},
		{snap.Viewer{At: 1, Me: 9}, "- ss- - ---- oo -- -"},
		{snap.Viewer{At: 3, Me: 1}, "- oo- s ---- -- -- s"},
		{snap.Viewer{At: 0, Me: 4}, "- --- o ---- -- -- -"},
		{snap.Viewer{At: 2, Me: 11}, "- ss- s ---- -- -- -"},
		{snap.Viewer{At: 2, Me: 6}, "- ss- s ---- -- -- -"},
		{snap.Viewer{At: 2, Me: 14}, "- ss- s ---- -- -- -"},
		{snap.Viewer{At: 2, Me: -5}, "- ss- s ---- -- -- -"},
	}
}

// own reports whether a row of some versions is the viewer's own.
func (l looks) own(versions []made) bool {
	for _, m := range versions {
		if l.is(m.min) == 'o' || l.is(m.max) == 'o' {
			return true
		}
	}
	return false
}

// seen is which of a row's versions are visible, by their places.
func (l looks) seen(versions []made) []int {
	own := l.own(versions)
	var places []int
	for i, m := range versions {
		min, max := l.is(m.min), l.is(m.max)
		switch {
		case own && min == 'o' && max != 'o':
			places = append(places, i)
		case !own && min != '-' && max == '-':
			places = append(places, i)
		}
	}
	return places
}

// last is the last one of a list, or none.
func last(l []int) int {
	if len(l) == 0 {
		return none
	}
	return l[len(l)-1]
}

// checkLooks checks what each viewer is answered of a row of some versions, on the mixture.
func checkLooks(t *testing.T, x *xid.Table, versions ...made) {
	t.Helper()
	h := heapOf(t, versions...)
	all := everyLook()
	newer := last(all[0].seen(versions))
	if newest(h, x, 1, 1) != newer {
		t.Fatalf("%v: Newest: %d, want %d", versions, newest(h, x, 1, 1), newer)
	}
	for _, l := range all {
		own, visible := l.own(versions), last(l.seen(versions))
		if got := seen(h, x, l.Viewer, 1, 1); got != visible {
			t.Fatalf("%v: %v: Seen: %d, want %d", versions, l.Viewer, got, visible)
		}
		if sight.Own(h, x, l.Viewer, 1, 1) != own {
			t.Fatalf("%v: %v: Own: %v", versions, l.Viewer, !own)
		}
		if fresh := own || visible == newer; sight.Fresh(h, x, l.Viewer, 1, 1) != fresh {
			t.Fatalf("%v: %v: Fresh: %v", versions, l.Viewer, !fresh)
		}
		var ids []int
		if visible != none {
			ids = []int{1}
		}
		if got := sight.IDs(h, x, l.Viewer, 1); !slices.Equal(got, ids) {
			t.Fatalf("%v: %v: IDs: %v", versions, l.Viewer, got)
		}
	}
}

// anyID are the IDs of the mixture's transactions, and some that there are not.
func anyID() []int {
	return []int{0, 1, 2, 3, 4, 5, 6, 7, 8, 9, 10, 11, 12, 13, 14, -1, -5, math.MinInt, math.MaxInt}
}

// P12.1, P12.6: rows of one version, whose Min, and whose Max, is each transaction that there may be, or none: active, committed, aborted.
func TestOneVersion(t *testing.T) {
	x := mixture(t)
	for _, min := range anyID() {
		for _, max := range anyID() {
			checkLooks(t, x, made{min, max})
		}
	}
}

// P12.1, P12.6: rows of two versions, of each sort; of several that are visible it is the one that was put last.
func TestTwoVersions(t *testing.T) {
	x := mixture(t)
	ids := []int{0, 1, 4, 5, 7, 8, 9, 11, 13}
	for _, first := range ids {
		for _, second := range ids {
			for _, third := range ids {
				for _, fourth := range ids {
					checkLooks(t, x, made{first, second}, made{third, fourth})
				}
			}
		}
	}
}

// P12.1: rows of three versions.
func TestThreeVersions(t *testing.T) {
	x := mixture(t)
	var versions []made
	for _, min := range []int{1, 5, 7, 13} {
		for _, max := range []int{0, 4, 6, 8, 13} {
			versions = append(versions, made{min, max})
		}
	}
	for _, first := range versions {
		for _, second := range versions {
			for _, third := range versions {
				checkLooks(t, x, first, second, third)
			}
		}
	}
}

// P12.1: a row's own version, by name: by its Min, by its Max, by both, and by what is Gone.
func TestOwn(t *testing.T) {
	x := mixture(t)
	v := snap.Viewer{At: 2, Me: 5}
	for _, c := range []struct {
		versions []made
		own      bool
		want     int
	}{
		{[]made{{5, 0}}, true, 0},
		{[]made{{6, 0}}, true, 0},
		{[]made{{7, 0}}, true, 0},
		{[]made{{8, 0}}, false, none},
		{[]made{{1, 5}}, true, none},
		{[]made{{1, 7}}, true, none},
		{[]made{{1, 8}}, false, 0},
		{[]made{{5, 7}}, true, none},
		{[]made{{5, 8}}, true, 0},
		{[]made{{5, 9}}, true, 0},
		{[]made{{5, 4}}, true, 0},
		{[]made{{9, 5}}, true, none},
		{[]made{{8, 5}}, true, none},
		{[]made{{9, 0}}, false, none},
		{[]made{{1, 5}, {6, 0}}, true, 1},
		{[]made{{1, 5}, {6, 7}}, true, none},
		{[]made{{1, 5}, {6, 8}}, true, 1},
		{[]made{{1, 8}, {8, 0}}, false, 0},
		{[]made{{1, 5}, {5, 8}, {8, 0}}, true, 1},
		{[]made{{1, 0}, {5, 5}}, true, none},
		{[]made{{5, 5}, {1, 0}}, true, none},
		{[]made{{5, 0}, {4, 0}}, true, 0},
		{[]made{{4, 0}, {9, 7}}, true, none},
		{[]made{{5, 0}, {6, 0}, {7, 0}}, true, 2},
		{[]made{{7, 0}, {6, 6}, {5, 0}, {5, 5}}, true, 2},
	} {
		h := heapOf(t, c.versions...)
		checkOwn(t, h, x, v, 1, 1, c.own)
		checkSeen(t, h, x, v, 1, 1, c.want)
		if c.own {
			checkFresh(t, h, x, v, 1, 1, true)
		}
		if t.Failed() {
			t.Fatal(c.versions)
		}
	}
}

// P12.1: a row is told from those beside it: what is written in another one, or in another table, does not count.
func TestRowsBesideOneAnother(t *testing.T) {
	h, x := heap.New(), tableOf(t, "b0 c1 b0")
	v := snap.Now(x, 2)
	put(t, h, 1, 1, made{1, 0})
	put(t, h, 1, 2, made{1, 2}, made{2, 0})
	put(t, h, 2, 1, made{1, 2})
	put(t, h, 2, 2, made{2, 0})
	for _, c := range []struct {
		no, id       int
		own          bool
		want, newest int
	}{{1, 1, false, 0, 0}, {1, 2, true, 2, 1}, {2, 1, true, none, 3}, {2, 2, true, 4, none}, {1, 3, false, none, none}, {3, 1, false, none, none}} {
		checkOwn(t, h, x, v, c.no, c.id, c.own)
		checkSeen(t, h, x, v, c.no, c.id, c.want)
		checkNewest(t, h, x, c.no, c.id, c.newest)
		checkFresh(t, h, x, v, c.no, c.id, true)
	}
	checkIDs(t, h, x, v, 1, 1, 2)
	checkIDs(t, h, x, v, 2, 2)
	checkIDs(t, h, x, snap.Now(x, 0), 2, 1)
}

// P12.1: of several visible versions it is the one that was put last, whatever its slot is.
func TestLastPut(t *testing.T) {
	x := tableOf(t, "b0 c1 b0")
	h := heapOf(t, made{1, 0}, made{1, 0}, made{1, 0})
	current, own := snap.Now(x, 0), snap.Now(x, 2)
	checkSeen(t, h, x, current, 1, 1, 2)
	free(t, h, 0)
	put(t, h, 1, 1, made{1, 0})
	checkSeen(t, h, x, current, 1, 1, 0)
	checkNewest(t, h, x, 1, 1, 0)
	free(t, h, 0, 1)
	checkSeen(t, h, x, current, 1, 1, 2)
	put(t, h, 1, 1, made{2, 0}, made{2, 0})
	checkSeen(t, h, x, current, 1, 1, 2)
	checkSeen(t, h, x, own, 1, 1, 1)
	free(t, h, 0)
	put(t, h, 1, 1, made{2, 0})
	checkSeen(t, h, x, own, 1, 1, 0)
	kill(t, h, 0, 2)
	checkSeen(t, h, x, own, 1, 1, 1)
	checkNewest(t, h, x, 1, 1, 2)
}

// P12.1: fresh is what is the viewer's own, and what it sees, or does not see, as the current viewer does; what one of the two alone sees is not.
func TestFresh(t *testing.T) {
	x := mixture(t)
	old := snap.Viewer{At: 2, Me: 5}
	for _, c := range []struct {
		name         string
		versions     []made
		seen, newest int
		fresh        bool
	}{
		{"the newest one", []made{{1, 4}, {4, 0}}, 1, 1, true},
		{"ended by what is Running", []made{{1, 9}, {9, 0}}, 0, 0, true},
		{"changed later", []made{{1, 13}, {13, 0}}, 0, 1, false},
		{"removed later: visible alone", []made{{1, 13}}, 0, none, false},
		{"put later: newest alone", []made{{13, 0}}, none, 0, false},
		{"removed before", []made{{1, 4}}, none, none, true},
		{"put and removed later", []made{{13, 13}}, none, none, true},
		{"by what is Gone", []made{{11, 0}}, none, none, true},
		{"by others", []made{{9, 0}}, none, none, true},
		{"its own, put", []made{{5, 0}}, 0, none, true},
		{"its own, changed", []made{{1, 6}, {6, 0}}, 1, 0, true},
		{"its own, removed", []made{{1, 7}}, none, 0, true},
		{"its own, put and removed", []made{{5, 7}}, none, none, true},
		{"its own, changed later", []made{{1, 5}, {5, 0}, {13, 0}}, 1, 2, true},
		{"no more its own", []made{{1, 8}, {8, 0}}, 0, 0, true},
		{"no more its own, changed later", []made{{1, 13}, {8, 0}, {13, 0}}, 0, 2, false},
	} {
		h := heapOf(t, c.versions...)
		checkSeen(t, h, x, old, 1, 1, c.seen)
		checkNewest(t, h, x, 1, 1, c.newest)
		checkFresh(t, h, x, old, 1, 1, c.fresh)
		if t.Failed() {
			t.Fatal(c.name)
		}
	}
}

// P12.1: slot 0 is another thing than none: of a row whose one version there is visible, or the newest one, alone.
func TestFreshOfSlotZero(t *testing.T) {
	x := tableOf(t, "b0 b0 c1")
	before, between := snap.Viewer{}, snap.Viewer{At: 1}
	h := heapOf(t, made{1, 0})
	checkFresh(t, h, x, before, 1, 1, false)
	checkFresh(t, h, x, between, 1, 1, true)
	kill(t, h, 0, 2)
	checkFresh(t, h, x, before, 1, 1, false)
	play(t, x, "c2")
	checkFresh(t, h, x, before, 1, 1, true)
	checkFresh(t, h, x, between, 1, 1, false)
	checkFresh(t, h, x, snap.Viewer{At: 2}, 1, 1, true)
}

// P12.1: Newest is what the current viewer without a transaction of its own sees: of nobody's writes in progress.
func TestNewest(t *testing.T) {
	h, x := heap.New(), tableOf(t, "b0 b0")
	put(t, h, 1, 1, made{1, 0})
	checkNewest(t, h, x, 1, 1, none)
	play(t, x, "c1")
	checkNewest(t, h, x, 1, 1, 0)
	kill(t, h, 0, 2)
	put(t, h, 1, 1, made{2, 0})
	checkNewest(t, h, x, 1, 1, 0)
	play(t, x, "c2 b0 b3")
	checkNewest(t, h, x, 1, 1, 1)
	kill(t, h, 1, 4)
	play(t, x, "a4 c3")
	checkNewest(t, h, x, 1, 1, 1)
	play(t, x, "b0 b5 c6")
	kill(t, h, 1, 6)
	checkNewest(t, h, x, 1, 1, 1)
	play(t, x, "c5")
	checkNewest(t, h, x, 1, 1, none)
}

// P12.1: rows are told in increasing order, whatever the order is in which their versions were put and freed, and none but those of which one is visible.
func TestIDs(t *testing.T) {
	x := mixture(t)
	h := heap.New()
	for _, id := range []int{40, 7, top, 23, 1, 12, 30, 2} {
		put(t, h, 3, id, made{1, 0})
	}
	put(t, h, 3, 35, made{9, 0})
	put(t, h, 3, 5, made{13, 0})
	put(t, h, 3, 6, made{5, 0})
	put(t, h, 3, 41, made{1, 4})
	put(t, h, 4, 8, made{1, 0})
	kill(t, h, 3, 4)
	kill(t, h, 1, 13)
	kill(t, h, 5, 6)
	kill(t, h, 0, 8)
	checkIDs(t, h, x, snap.Viewer{At: 1}, 3, 1, 2, 7, 12, 23, 30, 40, 41, top)
	checkIDs(t, h, x, snap.Viewer{At: 2}, 3, 1, 2, 7, 12, 30, 40, top)
	checkIDs(t, h, x, snap.Viewer{At: 3}, 3, 1, 2, 5, 12, 30, 40, top)
	checkIDs(t, h, x, snap.Viewer{At: 2, Me: 5}, 3, 1, 2, 6, 7, 30, 40, top)
	checkIDs(t, h, x, snap.Viewer{At: 3, Me: 9}, 3, 1, 2, 5, 12, 30, 35, 40, top)
	checkIDs(t, h, x, snap.Viewer{Me: 9}, 3, 35)
	checkIDs(t, h, x, snap.Viewer{}, 3)
	checkIDs(t, h, x, snap.Viewer{At: 1}, 4, 8)
	free(t, h, 6, 2, 0)
	checkIDs(t, h, x, snap.Viewer{At: 2}, 3, 1, 2, 7, 12)
	put(t, h, 3, 40, made{1, 0})
	put(t, h, 3, 3, made{4, 0})
	put(t, h, 3, 7, made{1, 0})
	checkIDs(t, h, x, snap.Viewer{At: 2}, 3, 1, 2, 3, 7, 12, 40)
	checkIDs(t, h, x, snap.Viewer{At: 1}, 3, 1, 2, 7, 12, 23, 40, 41)
	free(t, h, 1)
	checkIDs(t, h, x, snap.Viewer{At: 3}, 3, 1, 2, 3, 5, 7, 12, 40)
}

// P12.2: by its Min, and by its Max, at each number: of what is committed, active, aborted, and of what there is not.
func TestDead(t *testing.T) {
	x := mixture(t)
	counts := []int{1, 2, 4, 5, 6, 7, 9, 10, 13}
	numbers := map[int]int{1: 1, 2: 1, 4: 2, 13: 3}
	for _, min := range anyID() {
		for _, max := range anyID() {
			h := heapOf(t, made{5, 0}, made{min, max}, made{1, 4})
			for _, at := range []int{math.MinInt, -3, -1, 0, 1, 2, 3, 4, 1 << 40, math.MaxInt} {
				want := !slices.Contains(counts, min) || numbers[max] != 0 && numbers[max] <= at
				if sight.Dead(h, x, at, 1) != want {
					t.Errorf("%d, %d: Dead at %d: %v", min, max, at, !want)
				}
				checkDead(t, h, x, at, 0, false)
				checkDead(t, h, x, at, 2, at >= 2)
			}
		}
	}
}

// P12.2: a version dies by the commit of what ended it, at its number, and by the Abort of what made it, at any.
func TestDying(t *testing.T) {
	x := tableOf(t, "b0 c1 b0 b0 b3")
	h := heapOf(t, made{1, 2}, made{2, 0}, made{4, 0}, made{1, 4})
	dead := func(at int) string {
		s := ""
		for slot := range 4 {
			if sight.Dead(h, x, at, slot) {
				s += strconv.Itoa(slot)
			}
		}
		return s
	}
	for _, c := range []struct {
		steps string
		want  [5]string // at -1, 0, 1, 2 and 3
	}{
		{"", [5]string{}},
		{"c2", [5]string{3: "0", 4: "0"}},
		{"c4", [5]string{3: "0", 4: "0"}},
		{"a3", [5]string{"2", "2", "2", "02", "02"}},
		{"b0", [5]string{"2", "2", "2", "02", "02"}},
		{"c5", [5]string{"2", "2", "2", "02", "02"}},
	} {
		play(t, x, c.steps)
		for i, want := range c.want {
			if got := dead(i - 1); got != want {
				t.Errorf("%s: dead at %d: %s, want %s", c.steps, i-1, got, want)
			}
		}
	}
	kill(t, h, 1, 5)
	checkDead(t, h, x, 2, 1, false)
	checkDead(t, h, x, 3, 1, true)
	kill(t, h, 1, 0)
	checkDead(t, h, x, 3, 1, false)
}

// P12.2: in a slot that is negative, free, or far beyond, nothing is dead.
func TestNoSuchSlot(t *testing.T) {
	x := mixture(t)
	h := heapOf(t, made{1, 4}, made{11, 0}, made{3, 1}, made{1, 4})
	for _, at := range []int{math.MinInt, -1, 0, 1, 3, 4, math.MaxInt} {
		for _, slot := range nowhere(4) {
			checkDead(t, h, x, at, slot, false)
		}
		checkDead(t, heap.New(), x, at, 0, false)
		checkDead(t, h, x, at, 1, true)
	}
	free(t, h, 1, 3)
	for _, at := range []int{math.MinInt, -1, 0, 1, 3, 4, math.MaxInt} {
		for _, slot := range append(nowhere(4), 1, 3) {
			checkDead(t, h, x, at, slot, false)
		}
		checkDead(t, h, x, at, 0, at >= 2)
		checkDead(t, h, x, at, 2, true)
	}
	put(t, h, 1, 1, made{12, 0})
	checkDead(t, h, x, 0, 1, true)
}

// P12.1, P12.2: with a nil heap, a nil table, and both, nothing is visible, anybody's own, or dead, and all is fresh.
func TestNil(t *testing.T) {
	full, x := heapOf(t, made{1, 4}, made{5, 0}, made{11, 0}, made{4, 0}, made{0, 0}), mixture(t)
	for _, c := range []struct {
		h *heap.Heap
		x *xid.Table
	}{{nil, x}, {full, nil}, {nil, nil}, {heap.New(), nil}, {nil, xid.New()}} {
		for _, v := range viewers(3, 0, 1, 5, 11, 14, -1) {
			for _, no := range append(outside(), 1, 2, top) {
				for _, id := range append(outside(), 1, 2, top) {
					checkNoRow(t, c.h, c.x, v, no, id)
				}
				checkIDs(t, c.h, c.x, v, no)
			}
			for _, slot := range append(nowhere(5), 0, 1, 2, 3, 4) {
				checkDead(t, c.h, c.x, v.At, slot, false)
			}
		}
	}
}

// P12.1: rows without versions, tables without rows, and numbers that are no table's or no row's.
func TestNoVersions(t *testing.T) {
	x := mixture(t)
	h := heapOf(t, made{1, 0})
	put(t, h, 1, 2, made{5, 0}, made{5, 0})
	put(t, h, 2, 1, made{1, 0})
	put(t, h, top, top, made{1, 0})
	free(t, h, 1, 2, 3)
	h.Next(3)
	for _, v := range viewers(3, 0, 1, 5, 9, 11, 14) {
		for _, no := range append(outside(), 2, 3, 4, top-1) {
			checkIDs(t, h, x, v, no)
			for _, id := range append(outside(), 1, 2, top) {
				checkNoRow(t, h, x, v, no, id)
			}
		}
		for _, id := range append(outside(), 2, 3, top) {
			checkNoRow(t, h, x, v, 1, id)
		}
		for _, empty := range []*heap.Heap{heap.New(), {}} {
			checkNoRow(t, empty, x, v, 1, 1)
			checkIDs(t, empty, x, v, 1)
			checkDead(t, empty, x, v.At, 0, false)
		}
	}
	checkSeen(t, h, x, snap.Now(x, 0), 1, 1, 0)
	checkSeen(t, h, x, snap.Now(x, 0), top, top, 4)
	checkNewest(t, h, x, top, top, 4)
	checkIDs(t, h, x, snap.Now(x, 0), top, top)
}

// P12.1: a table without transactions: no version was made by any, so none is visible, and each is dead.
func TestNoTransactions(t *testing.T) {
	h := heapOf(t, made{0, 0}, made{1, 0}, made{1, 1}, made{-1, 0}, made{0, 1})
	for _, x := range []*xid.Table{xid.New(), {}} {
		for _, v := range viewers(1, 0, 1, -1, math.MinInt, math.MaxInt) {
			checkNoRow(t, h, x, v, 1, 1)
			checkIDs(t, h, x, v, 1)
			for slot := range 5 {
				checkDead(t, h, x, v.At, slot, true)
			}
		}
	}
}

// P12.4: a snapshot sees the same, whatever is written, committed and aborted afterwards; and it is fresh as long as that is not committed.
func TestSnapshot(t *testing.T) {
	h, x := heap.New(), tableOf(t, "b0 c1 b0")
	put(t, h, 1, 1, made{1, 0})
	put(t, h, 1, 2, made{1, 0})
	put(t, h, 1, 3, made{2, 0})
	old := snap.Now(x, 0)
	for _, c := range []struct {
		do    func()
		fresh []bool
	}{
		{func() {}, []bool{true, true, true, true}},
		{func() { kill(t, h, 0, 2); put(t, h, 1, 1, made{2, 0}) }, []bool{true, true, true, true}},
		{func() { play(t, x, "b2"); kill(t, h, 1, 3); put(t, h, 1, 4, made{3, 0}) }, []bool{true, true, true, true}},
		{func() { play(t, x, "a3") }, []bool{true, true, true, true}},
		{func() { play(t, x, "c2") }, []bool{false, true, false, true}},
		{func() { play(t, x, "b0"); kill(t, h, 1, 4); kill(t, h, 3, 4) }, []bool{false, true, false, true}},
		{func() { play(t, x, "a4") }, []bool{false, true, false, true}},
		{func() { play(t, x, "b0"); kill(t, h, 1, 5); put(t, h, 1, 4, made{5, 0}); play(t, x, "c5") }, []bool{false, false, false, false}},
		{func() { play(t, x, "b0"); kill(t, h, 2, 6); play(t, x, "c6") }, []bool{false, false, true, false}},
	} {
		c.do()
		checkIDs(t, h, x, old, 1, 1, 2)
		for i, want := range []int{0, 1, none, none} {
			checkSeen(t, h, x, old, 1, 1+i, want)
			checkFresh(t, h, x, old, 1, 1+i, c.fresh[i])
		}
		checkOwn(t, h, x, old, 1, 1, false)
	}
	checkIDs(t, h, x, snap.Now(x, 0), 1, 1, 4)
}

// P12.6: whoever wrote a row sees its own version, each of the three, and others see nothing of that until it is committed.
func TestWriters(t *testing.T) {
	h, x := heap.New(), tableOf(t, "b0 c1 b0 b0")
	put(t, h, 1, 1, made{1, 0})
	put(t, h, 1, 2, made{1, 0})
	me, other, nobody := snap.Now(x, 2), snap.Now(x, 3), snap.Now(x, 0)
	kill(t, h, 0, 2)
	put(t, h, 1, 1, made{2, 0})
	kill(t, h, 1, 2)
	put(t, h, 1, 3, made{2, 0})
	checkIDs(t, h, x, me, 1, 1, 3)
	checkSeen(t, h, x, me, 1, 1, 2)
	for _, v := range []snap.Viewer{other, nobody} {
		checkIDs(t, h, x, v, 1, 1, 2)
		checkSeen(t, h, x, v, 1, 1, 0)
	}
	play(t, x, "c2")
	for _, v := range []snap.Viewer{other, nobody} {
		checkIDs(t, h, x, v, 1, 1, 2)
		checkSeen(t, h, x, v, 1, 1, 0)
	}
	for _, v := range []snap.Viewer{snap.Now(x, 3), snap.Now(x, 0), me} {
		checkIDs(t, h, x, v, 1, 1, 3)
		checkSeen(t, h, x, v, 1, 1, 2)
	}
}

// ask asks all that there is to be asked of a heap.
func ask(h *heap.Heap, x *xid.Table) []any {
	var l []any
	for _, v := range viewers(3, 0, 1, 5, 9) {
		for no := range 3 {
			for id := range 4 {
				l = append(l, sight.Own(h, x, v, no, id), seen(h, x, v, no, id), newest(h, x, no, id), sight.Fresh(h, x, v, no, id))
			}
			l = append(l, sight.IDs(h, x, v, no))
		}
		for slot := range 9 {
			l = append(l, sight.Dead(h, x, v.At, slot))
		}
	}
	return l
}

// P12.1, P12.2: who asks changes nothing in what is handed in, and is answered the same again; the list that is answered may be written over, and added to.
func TestAskedTwice(t *testing.T) {
	x := mixture(t)
	h := heapOf(t, made{1, 4}, made{4, 5}, made{5, 0}, made{8, 0})
	put(t, h, 1, 3, made{1, 0})
	put(t, h, 1, 2, made{2, 0}, made{4, 9})
	put(t, h, 2, 1, made{9, 0})
	free(t, h, 3)
	heapWas, tableWas := h.Copy(), x.Copy()
	first := ask(h, x)
	if !reflect.DeepEqual(ask(h, x), first) || !reflect.DeepEqual(ask(heapWas, tableWas), first) {
		t.Error("other answers")
	}
	if !reflect.DeepEqual(h.Copy(), heapWas) || !reflect.DeepEqual(x.Copy(), tableWas) {
		t.Error("what was handed in was changed")
	}
	v := snap.Viewer{At: 2}
	one, two := sight.IDs(h, x, v, 1), sight.IDs(h, x, v, 1)
	one = append(one, 77)
	for i := range one[:cap(one)] {
		one[:cap(one)][i] = 77
	}
	if !slices.Equal(two, []int{1, 2, 3}) || !slices.Equal(h.IDs(1), []int{1, 2, 3}) {
		t.Error("an answer shares its memory:", two, h.IDs(1))
	}
	checkIDs(t, h, x, v, 1, 1, 2, 3)
}

// P12.1, P12.2: very many versions of one row, each ended by the transaction that made the next one.
func TestLongRow(t *testing.T) {
	const length = 1 << 11
	h, x := heap.New(), xid.New()
	for i := 1; i <= length; i++ {
		play(t, x, "b0")
		if i > 1 {
			kill(t, h, i-2, i)
		}
		put(t, h, 1, 1, made{i, 0})
		play(t, x, "c"+strconv.Itoa(i))
	}
	for _, at := range []int{1, 2, 100, length - 1, length} {
		checkSeen(t, h, x, snap.Viewer{At: at}, 1, 1, at-1)
		checkFresh(t, h, x, snap.Viewer{At: at}, 1, 1, at == length)
		for _, slot := range []int{0, 1, at - 2, at - 1, at} {
			checkDead(t, h, x, at, slot, slot >= 0 && slot < at-1)
		}
	}
	checkNewest(t, h, x, 1, 1, length-1)
	checkSeen(t, h, x, snap.Viewer{}, 1, 1, none)
}

// P12.1: very many rows.
func TestManyRows(t *testing.T) {
	const width = 1 << 13
	h, x := heap.New(), tableOf(t, "b0 c1 b0 c2 b0")
	for i := range width {
		id := 1 + i*1237%width
		put(t, h, 1, id, made{1 + id%3, 0})
	}
	for at, want := range [][]int{nil, {0}, {0, 1}} {
		var ids []int
		for id := 1; id <= width; id++ {
			if slices.Contains(want, id%3) {
				ids = append(ids, id)
			}
		}
		checkIDs(t, h, x, snap.Viewer{At: at}, 1, ids...)
	}
}
