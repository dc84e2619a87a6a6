package heap_test

import (
	"math"
	"reflect"
	"slices"
	"testing"
	"unsafe"

	"covenant/api"
	"covenant/heap"
)

// top is the greatest number of a table, and the greatest ID of a row.
const top = 1<<31 - 1

// outside are numbers that are no table's, and no row's.
func outside() []int {
	return []int{0, -1, -2, -top, -top - 1, math.MinInt, top + 1, top + 2, 1 << 32, 1<<32 + 1, 1<<62 + 1, math.MaxInt}
}

// nowhere are slots that there are not, where there are n.
func nowhere(n int) []int {
	return []int{-1, -2, -n - 1, -1 << 32, math.MinInt, n, n + 1, 2*n + 5, 1<<31 - 1, 1 << 31, n + 1<<32, math.MaxInt}
}

// tuple is a version that can be told from others by its Min.
func tuple(no, id, min int) heap.Tuple {
	return heap.Tuple{No: no, ID: id, Min: min, CMin: min + 100, Row: []api.Value{{Kind: api.Int, N: int64(min)}}}
}

// same reports whether two tuples have the same numbers, and the same values, a Row that is nil and one of no values being two things.
func same(a, b heap.Tuple) bool { return reflect.DeepEqual(a, b) }

func checkPut(t *testing.T, h *heap.Heap, x heap.Tuple, want int) {
	t.Helper()
	if slot, e := h.Put(x); slot != want || e != api.OK {
		t.Errorf("Put(%+v) = %d, %d, want %d", x, slot, e, want)
	}
}

func checkNext(t *testing.T, h *heap.Heap, no int, want ...int) {
	t.Helper()
	for _, id := range want {
		if got := h.Next(no); got != id {
			t.Errorf("Next(%d) = %d, want %d", no, got, id)
		}
	}
}

func checkFree(t *testing.T, h *heap.Heap, slots ...int) {
	t.Helper()
	for _, slot := range slots {
		if e := h.Free(slot); e != api.OK {
			t.Errorf("Free(%d) = %d", slot, e)
		}
	}
}

func checkKill(t *testing.T, h *heap.Heap, slot, xid, cmd int) {
	t.Helper()
	if e := h.Kill(slot, xid, cmd); e != api.OK {
		t.Errorf("Kill(%d, %d, %d) = %d", slot, xid, cmd, e)
	}
}

func checkAt(t *testing.T, h *heap.Heap, slot int, want heap.Tuple) {
	t.Helper()
	if got, is := h.At(slot); !is || !same(got, want) {
		t.Errorf("At(%d) = %#v, %v, want %#v", slot, got, is, want)
	}
}

func checkSlots(t *testing.T, h *heap.Heap, no, id int, want ...int) {
	t.Helper()
	if got := h.Slots(no, id); !slices.Equal(got, want) {
		t.Errorf("Slots(%d, %d) = %v, want %v", no, id, got, want)
	}
}

func checkIDs(t *testing.T, h *heap.Heap, no int, want ...int) {
	t.Helper()
	if got := h.IDs(no); !slices.Equal(got, want) {
		t.Errorf("IDs(%d) = %v, want %v", no, got, want)
	}
}

func checkTables(t *testing.T, h *heap.Heap, want ...int) {
	t.Helper()
	if got := h.Tables(); !slices.Equal(got, want) {
		t.Errorf("Tables() = %v, want %v", got, want)
	}
}

func checkLen(t *testing.T, h *heap.Heap, want int) {
	t.Helper()
	if got := h.Len(); got != want {
		t.Errorf("Len() = %d, want %d", got, want)
	}
}

// checkNone checks that there are no tuples in some slots, and what those calls are answered that ask for one.
func checkNone(t *testing.T, h *heap.Heap, e api.Errno, slots ...int) {
	t.Helper()
	for _, slot := range slots {
		if got, is := h.At(slot); is || !same(got, heap.Tuple{}) {
			t.Errorf("At(%d) = %#v, %v", slot, got, is)
		}
		for _, n := range []int{0, 1, -1, math.MinInt, math.MaxInt} {
			if got := h.Kill(slot, n, n); got != e {
				t.Errorf("Kill(%d, %d, %d) = %d, want %d", slot, n, n, got, e)
			}
		}
		if got := h.Free(slot); got != e {
			t.Errorf("Free(%d) = %d, want %d", slot, got, e)
		}
	}
}

// checkBare checks that there are no tuples at all.
func checkBare(t *testing.T, h *heap.Heap, e api.Errno) {
	t.Helper()
	checkLen(t, h, 0)
	checkTables(t, h)
	checkNone(t, h, e, append(nowhere(0), 0, 1, 2)...)
	for _, no := range append(outside(), 1, 2, top) {
		checkIDs(t, h, no)
		for _, id := range append(outside(), 1, 2, top) {
			checkSlots(t, h, no, id)
		}
	}
}

// checkRefused checks that a tuple is refused.
func checkRefused(t *testing.T, h *heap.Heap, x heap.Tuple, want api.Errno) {
	t.Helper()
	if slot, e := h.Put(x); slot != 0 || e != want {
		t.Errorf("Put(%+v) = %d, %d, want 0, %d", x, slot, e, want)
	}
}

// heapOf is a heap into which tuples were put, in slots from 0 on.
func heapOf(t *testing.T, tuples ...heap.Tuple) *heap.Heap {
	t.Helper()
	h := heap.New()
	for slot, x := range tuples {
		checkPut(t, h, x, slot)
	}
	return h
}

// P11.1, P11.2: the chapter's examples.
func TestExamples(t *testing.T) {
	h := heap.New()
	checkNext(t, h, 1, 1, 2)
	checkNext(t, h, 2, 1)
	checkPut(t, h, tuple(1, 2, 1), 0)
	checkPut(t, h, tuple(1, 2, 2), 1)
	checkFree(t, h, 0)
	checkPut(t, h, tuple(1, 2, 3), 0)
	checkSlots(t, h, 1, 2, 1, 0)
	checkPut(t, h, tuple(1, 7, 4), 2)
	checkNext(t, h, 1, 8)
	if e := h.Kill(5, 1, 1); e != api.ErrArg {
		t.Error("Kill:", e)
	}
}

// P11.1, P11.2: a new heap has no tuples, and each is another one.
func TestNew(t *testing.T) {
	other := heap.New()
	for _, h := range []*heap.Heap{heap.New(), heap.New().Copy(), {}, (&heap.Heap{}).Copy()} {
		if h == nil {
			t.Fatal("nil")
		}
		checkBare(t, h, api.ErrArg)
		checkNext(t, h, 3, 1, 2)
		checkBare(t, h, api.ErrArg)
		checkPut(t, h, tuple(3, 1, 5), 0)
		checkLen(t, h, 1)
		checkAt(t, h, 0, tuple(3, 1, 5))
	}
	checkBare(t, other, api.ErrArg)
	checkNext(t, other, 3, 1)
}

// P11.1, P11.2: of nil each call answers nothing, or ErrNil, before it looks at anything else.
func TestNil(t *testing.T) {
	var h *heap.Heap
	checkBare(t, h, api.ErrNil)
	for _, no := range append(outside(), 1, 2, top) {
		checkNext(t, h, no, 0, 0)
		for _, id := range append(outside(), 1, 2, top) {
			checkRefused(t, h, tuple(no, id, 1), api.ErrNil)
		}
	}
	if h.Copy() != nil {
		t.Error("Copy of nil")
	}
	checkBare(t, h, api.ErrNil)
}

// P11.1: tables and rows have numbers from 1 to 2^31 - 1; what has another one is refused, and changes nothing.
func TestNumbers(t *testing.T) {
	for _, bad := range outside() {
		h := heap.New()
		for _, x := range []heap.Tuple{tuple(bad, 1, 1), tuple(1, bad, 1), tuple(bad, bad, 1), tuple(bad, top, 1), tuple(top, bad, 1), {No: bad}, {ID: bad}, {}} {
			checkRefused(t, h, x, api.ErrArg)
		}
		checkNext(t, h, bad, 0, 0)
		checkBare(t, h, api.ErrArg)
		checkNext(t, h, 1, 1)
		checkNext(t, h, top, 1)
		checkPut(t, h, tuple(1, 1, 1), 0)
		checkRefused(t, h, tuple(1, bad, 1), api.ErrArg)
		checkRefused(t, h, tuple(bad, 1, 1), api.ErrArg)
		checkNext(t, h, bad, 0)
		checkIDs(t, h, bad)
		checkSlots(t, h, bad, 1)
		checkSlots(t, h, 1, bad)
		checkSlots(t, h, 1, 1, 0)
		checkTables(t, h, 1)
		checkLen(t, h, 1)
		checkNext(t, h, 1, 2)
		checkPut(t, h, tuple(1, 2, 2), 1)
	}
}

// P11.1, P11.2: the least and the greatest number of a table, and of a row.
func TestEndsOfNumbers(t *testing.T) {
	h := heapOf(t, tuple(top, top, 1), tuple(1, top, 2), tuple(top, 1, 3), tuple(1, 1, 4), tuple(top-1, top-1, 5))
	checkTables(t, h, 1, top-1, top)
	checkIDs(t, h, 1, 1, top)
	checkIDs(t, h, top-1, top-1)
	checkIDs(t, h, top, 1, top)
	checkSlots(t, h, top, top, 0)
	checkSlots(t, h, 1, top, 1)
	checkSlots(t, h, top, 1, 2)
	checkSlots(t, h, 1, 1, 3)
	checkAt(t, h, 0, tuple(top, top, 1))
	checkNext(t, h, top, 0)
	checkNext(t, h, 1, 0)
	checkNext(t, h, top-1, top, 0, 0)
}

// P11.1, P11.2: slots that are negative, free, one more than there are, and far beyond.
func TestNoSuchSlot(t *testing.T) {
	h := heapOf(t, tuple(1, 1, 0), tuple(1, 2, 1), tuple(2, 1, 2), tuple(1, 1, 3))
	checkNone(t, h, api.ErrArg, nowhere(4)...)
	checkFree(t, h, 1, 3)
	checkNone(t, h, api.ErrArg, append(nowhere(4), 1, 3)...)
	checkLen(t, h, 2)
	checkAt(t, h, 0, tuple(1, 1, 0))
	checkAt(t, h, 2, tuple(2, 1, 2))
	checkFree(t, h, 2, 0)
	checkBare(t, h, api.ErrArg)
	checkNone(t, h, api.ErrArg, append(nowhere(4), 0, 1, 2, 3)...)
	// What was refused freed nothing once more: each slot is used once.
	for slot := range 6 {
		checkPut(t, h, tuple(1, 1, slot), slot)
	}
	checkSlots(t, h, 1, 1, 0, 1, 2, 3, 4, 5)
}

// orders calls f with each order of some slots.
func orders(slots []int, f func(order []int)) {
	var from func(order, left []int)
	from = func(order, left []int) {
		if len(left) == 0 {
			f(order)
		}
		for i := range left {
			from(append(slices.Clone(order), left[i]), slices.Delete(slices.Clone(left), i, i+1))
		}
	}
	from(nil, slots)
}

// P11.1, P11.4: a tuple gets the least of the free slots, in whatever order they were freed, and then the next one behind all.
func TestLeast(t *testing.T) {
	for _, freed := range [][]int{{0, 1, 2, 3, 4, 5}, {0, 2, 3, 5}, {1, 3, 4}, {2, 5}, {0}, {5}, nil} {
		orders(freed, func(order []int) {
			h := heap.New()
			for slot := range 6 {
				checkPut(t, h, tuple(1, 1+slot, slot), slot)
			}
			checkFree(t, h, order...)
			checkLen(t, h, 6-len(order))
			for i, slot := range freed {
				checkPut(t, h, tuple(2, 1+i, slot), slot)
			}
			checkLen(t, h, 6)
			checkPut(t, h, tuple(1, 1, 9), 6)
			if t.Failed() {
				t.Fatal("freed:", order)
			}
		})
	}
}

// P11.1, P11.4: Put and Free in turn: the least free slot is told anew each time.
func TestLeastInTurn(t *testing.T) {
	h := heapOf(t, tuple(1, 1, 1), tuple(1, 1, 2), tuple(1, 1, 3), tuple(1, 1, 4), tuple(1, 1, 5))
	checkFree(t, h, 3, 1)
	checkPut(t, h, tuple(1, 1, 6), 1)
	checkFree(t, h, 4, 0, 2)
	checkPut(t, h, tuple(1, 1, 7), 0)
	checkPut(t, h, tuple(1, 1, 8), 2)
	checkFree(t, h, 2)
	checkPut(t, h, tuple(1, 1, 9), 2)
	checkPut(t, h, tuple(1, 1, 10), 3)
	checkPut(t, h, tuple(1, 1, 11), 4)
	checkPut(t, h, tuple(1, 1, 12), 5)
	checkSlots(t, h, 1, 1, 1, 0, 2, 3, 4, 5)
}

// P11.1, P11.6: tables have IDs of their own, whichever is asked.
func TestNext(t *testing.T) {
	h := heap.New()
	checkNext(t, h, 1, 1, 2, 3)
	checkNext(t, h, 2, 1)
	checkNext(t, h, top, 1, 2)
	checkNext(t, h, 1, 4)
	checkNext(t, h, 2, 2, 3)
	checkNext(t, h, top-1, 1)
	checkNext(t, h, top, 3)
	checkBare(t, h, api.ErrArg)
}

// P11.1, P11.6: an ID that was put counts as one that was assigned, if it is greater than all others.
func TestNextBehindPut(t *testing.T) {
	h := heap.New()
	checkPut(t, h, tuple(1, 5, 1), 0)
	checkNext(t, h, 1, 6)
	checkPut(t, h, tuple(1, 6, 2), 1)
	checkNext(t, h, 1, 7)
	checkPut(t, h, tuple(1, 2, 3), 2)
	checkNext(t, h, 1, 8)
	checkPut(t, h, tuple(1, 5, 4), 3)
	checkNext(t, h, 1, 9)
	checkPut(t, h, tuple(1, 10, 5), 4)
	checkNext(t, h, 1, 11, 12)
	checkPut(t, h, tuple(2, 100, 6), 5)
	checkNext(t, h, 1, 13)
	checkNext(t, h, 2, 101)
	checkPut(t, h, tuple(1, 1, 7), 6)
	checkPut(t, h, tuple(1, 20, 8), 7)
	checkPut(t, h, tuple(1, 15, 9), 8)
	checkNext(t, h, 1, 21)
	checkNext(t, h, 3, 1)
}

// P11.1, P11.6: what is freed, and what is refused, leaves the IDs as they are.
func TestNextBehindFree(t *testing.T) {
	h := heap.New()
	checkPut(t, h, tuple(1, 5, 1), 0)
	checkFree(t, h, 0)
	checkNext(t, h, 1, 6)
	checkPut(t, h, tuple(1, 9, 2), 0)
	checkPut(t, h, tuple(1, 3, 3), 1)
	checkFree(t, h, 1, 0)
	checkBare(t, h, api.ErrArg)
	checkNext(t, h, 1, 10, 11)
	checkRefused(t, h, tuple(1, top+1, 4), api.ErrArg)
	checkRefused(t, h, tuple(1, 0, 5), api.ErrArg)
	checkRefused(t, h, tuple(0, 50, 6), api.ErrArg)
	checkNext(t, h, 1, 12)
	checkPut(t, h, tuple(1, 12, 7), 0)
	checkKill(t, h, 0, 8, 9)
	checkFree(t, h, 0)
	checkNext(t, h, 1, 13)
}

// P11.1, P11.6: behind the greatest ID that there may be, whether it was assigned or put, none is assigned, of that table alone.
func TestNextAtTheEnd(t *testing.T) {
	h := heap.New()
	checkPut(t, h, tuple(1, top-2, 1), 0)
	checkNext(t, h, 1, top-1, top, 0, 0)
	checkPut(t, h, tuple(1, 1, 2), 1)
	checkPut(t, h, tuple(1, top, 3), 2)
	checkNext(t, h, 1, 0)
	checkFree(t, h, 0, 1, 2)
	checkNext(t, h, 1, 0, 0)
	checkNext(t, h, 2, 1)
	checkPut(t, h, tuple(2, top, 4), 0)
	checkNext(t, h, 2, 0, 0)
	checkPut(t, h, tuple(2, top, 5), 1)
	checkFree(t, h, 0, 1)
	checkNext(t, h, 2, 0)
	checkPut(t, h, tuple(2, 7, 6), 0)
	checkNext(t, h, 2, 0)
	checkIDs(t, h, 2, 7)
	checkNext(t, h.Copy(), 2, 0)
	checkNext(t, h.Copy(), 3, 1)
	checkNext(t, h, 3, 1)
}

// P11.1, P11.3: Kill sets Max and CMax, whatever they were, and nothing else, of no other tuple.
func TestKill(t *testing.T) {
	first, second, third := tuple(1, 1, 1), tuple(1, 1, 2), tuple(2, 1, 3)
	second.Max, second.CMax = 7, 8
	h := heapOf(t, first, second, third)
	for _, n := range [][2]int{{4, 5}, {4, 5}, {6, 1}, {0, 0}, {0, 3}, {9, 0}, {-1, -2}, {math.MinInt, math.MaxInt}, {math.MaxInt, math.MinInt}, {top + 1, 1 << 40}, {2, 2}} {
		checkKill(t, h, 1, n[0], n[1])
		second.Max, second.CMax = n[0], n[1]
		checkAt(t, h, 0, first)
		checkAt(t, h, 1, second)
		checkAt(t, h, 2, third)
	}
	checkKill(t, h, 0, 3, 4)
	first.Max, first.CMax = 3, 4
	checkAt(t, h, 0, first)
	checkAt(t, h, 1, second)
	checkSlots(t, h, 1, 1, 0, 1)
	checkIDs(t, h, 1, 1)
	checkTables(t, h, 1, 2)
	checkLen(t, h, 3)
	// What is put into a slot has nothing of what was there.
	checkFree(t, h, 1)
	checkPut(t, h, tuple(1, 1, 9), 1)
	checkAt(t, h, 1, tuple(1, 1, 9))
}

// P11.2: the slots of a row stand in the order in which its tuples were put, whatever their numbers are.
func TestSlotsInOrder(t *testing.T) {
	h := heapOf(t, tuple(1, 1, 0), tuple(1, 1, 1), tuple(1, 2, 2), tuple(1, 1, 3), tuple(2, 1, 4), tuple(1, 1, 5))
	checkSlots(t, h, 1, 1, 0, 1, 3, 5)
	checkFree(t, h, 3)
	checkSlots(t, h, 1, 1, 0, 1, 5)
	checkFree(t, h, 0)
	checkSlots(t, h, 1, 1, 1, 5)
	checkPut(t, h, tuple(1, 1, 6), 0)
	checkSlots(t, h, 1, 1, 1, 5, 0)
	checkPut(t, h, tuple(1, 2, 7), 3)
	checkSlots(t, h, 1, 2, 2, 3)
	checkFree(t, h, 2, 5)
	checkSlots(t, h, 1, 1, 1, 0)
	checkSlots(t, h, 1, 2, 3)
	checkPut(t, h, tuple(1, 2, 8), 2)
	checkPut(t, h, tuple(1, 1, 9), 5)
	checkPut(t, h, tuple(1, 1, 10), 6)
	checkSlots(t, h, 1, 1, 1, 0, 5, 6)
	checkSlots(t, h, 1, 2, 3, 2)
	checkSlots(t, h, 2, 1, 4)
	// A row all of whose tuples were freed begins anew.
	checkFree(t, h, 0, 5, 1, 6)
	checkSlots(t, h, 1, 1)
	checkPut(t, h, tuple(1, 1, 11), 0)
	checkSlots(t, h, 1, 1, 0)
	checkSlots(t, h, 2, 2)
	checkSlots(t, h, 3, 1)
}

// P11.2: a row, and a table, is told as long as it has a tuple.
func TestIDsAndTables(t *testing.T) {
	h := heapOf(t, tuple(7, 30, 0), tuple(3, 8, 1), tuple(7, 4, 2), tuple(7, 30, 3), tuple(5, 1, 4), tuple(7, 12, 5), tuple(3, 2, 6))
	checkTables(t, h, 3, 5, 7)
	checkIDs(t, h, 7, 4, 12, 30)
	checkIDs(t, h, 3, 2, 8)
	checkIDs(t, h, 5, 1)
	checkIDs(t, h, 4)
	checkFree(t, h, 0)
	checkIDs(t, h, 7, 4, 12, 30)
	checkFree(t, h, 3)
	checkIDs(t, h, 7, 4, 12)
	checkTables(t, h, 3, 5, 7)
	checkFree(t, h, 4)
	checkIDs(t, h, 5)
	checkTables(t, h, 3, 7)
	checkKill(t, h, 1, 1, 1)
	checkIDs(t, h, 3, 2, 8)
	checkFree(t, h, 2, 5)
	checkIDs(t, h, 7)
	checkTables(t, h, 3)
	checkPut(t, h, tuple(5, 6, 7), 0)
	checkTables(t, h, 3, 5)
	checkIDs(t, h, 5, 6)
	checkNext(t, h, 9, 1)
	checkTables(t, h, 3, 5)
	checkFree(t, h, 6, 1, 0)
	checkBare(t, h, api.ErrArg)
}

// P11.2: how many tuples there are.
func TestLen(t *testing.T) {
	h := heap.New()
	for i, c := range []struct {
		do   func() api.Errno
		want int
	}{
		{func() api.Errno { _, e := h.Put(tuple(1, 1, 1)); return e }, 1},
		{func() api.Errno { _, e := h.Put(tuple(1, 1, 1)); return e }, 2},
		{func() api.Errno { _, e := h.Put(tuple(2, 1, 1)); return e }, 3},
		{func() api.Errno { return h.Kill(1, 1, 1) }, 3},
		{func() api.Errno { return h.Free(1) }, 2},
		{func() api.Errno { _, e := h.Put(tuple(2, 1, 1)); return e }, 3},
		{func() api.Errno { return h.Free(2) }, 2},
		{func() api.Errno { return h.Free(0) }, 1},
		{func() api.Errno { return h.Free(1) }, 0},
		{func() api.Errno { _, e := h.Put(tuple(3, 1, 1)); return e }, 1},
	} {
		if e := c.do(); e != api.OK {
			t.Errorf("%d: %d", i, e)
		}
		checkLen(t, h, c.want)
	}
	checkRefused(t, h, heap.Tuple{}, api.ErrArg)
	checkNone(t, h, api.ErrArg, 1, 2)
	checkLen(t, h, 1)
}

// rows are Rows of all sorts: without values, and with those that may not be.
func rows() [][]api.Value {
	return [][]api.Value{
		nil,
		{},
		{{}},
		{{Kind: api.Int, N: math.MinInt64}, {Kind: api.Bool, N: 1}, {Kind: api.Text, T: "a"}, {Kind: api.Span, N: 1, Hi: 2}, {}},
		{{Kind: api.Null, N: 1, Hi: 2, T: "x"}},
		{{Kind: api.Int, N: 1, Hi: 2, T: "x"}},
		{{Kind: api.Bool, N: 7}},
		{{Kind: api.Text, N: 3, T: "\xff\x00"}},
		{{Kind: api.Span, N: 2, Hi: 1}},
		{{Kind: 5}, {Kind: 255, N: math.MaxInt64, Hi: math.MinInt64, T: string(make([]byte, api.MaxText+1))}},
		make([]api.Value, 3*api.MaxCols),
	}
}

// P11.3: values and numbers of transactions and commands are kept as they are put, whatever they are.
func TestAnything(t *testing.T) {
	numbers := []int{0, 1, -1, 5, top, top + 1, math.MinInt, math.MaxInt}
	h := heap.New()
	var put []heap.Tuple
	for i, r := range rows() {
		for j, n := range numbers {
			m := numbers[(i+j)%len(numbers)]
			x := heap.Tuple{No: 1 + i, ID: 1 + j, Min: n, CMin: m, Max: -1 - m, CMax: -1 - n, Row: r}
			checkPut(t, h, x, len(put))
			put = append(put, x)
		}
	}
	twin := h.Copy()
	for slot, x := range put {
		checkAt(t, h, slot, x)
		checkAt(t, twin, slot, x)
		checkSlots(t, h, x.No, x.ID, slot)
		checkKill(t, h, slot, x.Min, x.CMin)
		x.Max, x.CMax = x.Min, x.CMin
		checkAt(t, h, slot, x)
	}
	checkLen(t, h, len(put))
}

// spoil writes over all values of a list, and what it has room for.
func spoil(r []api.Value) {
	for i := range r[:cap(r)] {
		r[:cap(r)][i] = api.Value{Kind: 9, N: -9, Hi: -9, T: "spoilt"}
	}
}

// P11.3, P11.7: what was put is kept, though the Row that was handed in is written over, and what was answered.
func TestOwnValues(t *testing.T) {
	inText := []byte("text")
	given := make([]api.Value, 0, 10)
	given = append(given, api.Value{Kind: api.Int, N: 5}, api.Value{Kind: api.Text, T: unsafe.String(&inText[0], len(inText))})
	want := heap.Tuple{No: 1, ID: 1, Row: []api.Value{{Kind: api.Int, N: 5}, {Kind: api.Text, T: "text"}}}
	h := heap.New()
	checkPut(t, h, heap.Tuple{No: 1, ID: 1, Row: given}, 0)
	checkPut(t, h, heap.Tuple{No: 1, ID: 1, Row: given}, 1)
	checkPut(t, h, heap.Tuple{No: 1, ID: 2, Row: given[:0]}, 2)
	if len(given) != 2 || given[0].N != 5 || given[1].T != "text" {
		t.Error("Put changed what was handed in:", given)
	}
	spoil(given)
	copy(inText, "gone")
	twin := h.Copy()
	for range 3 {
		for slot := range 2 {
			checkAt(t, h, slot, want)
			checkAt(t, twin, slot, want)
			a, _ := h.At(slot)
			b, _ := h.At(slot)
			if unsafe.StringData(a.Row[1].T) == unsafe.StringData(b.Row[1].T) {
				t.Error("two answers have one text")
			}
			spoil(a.Row)
			if !same(b, want) {
				t.Error("two answers have one Row:", b)
			}
			c, _ := twin.At(slot)
			spoil(c.Row)
		}
		if x, is := h.At(2); !is || x.Row == nil || len(x.Row) != 0 {
			t.Error("At(2):", x, is)
		}
	}
}

// P11.2, P11.7: what Slots, IDs and Tables answer may be written over, and added to.
func TestOwnLists(t *testing.T) {
	h := heapOf(t, tuple(1, 1, 0), tuple(1, 1, 1), tuple(1, 2, 2), tuple(2, 1, 3), tuple(1, 1, 4))
	for range 2 {
		for _, l := range [][]int{h.Slots(1, 1), h.Slots(1, 2), h.IDs(1), h.IDs(2), h.Tables()} {
			l = append(l, 77)
			for i := range l[:cap(l)] {
				l[:cap(l)][i] = 77
			}
		}
		checkSlots(t, h, 1, 1, 0, 1, 4)
		checkSlots(t, h, 1, 2, 2)
		checkIDs(t, h, 1, 1, 2)
		checkIDs(t, h, 2, 1)
		checkTables(t, h, 1, 2)
	}
	before := h.Slots(1, 1)
	checkFree(t, h, 0, 1)
	checkPut(t, h, tuple(1, 1, 5), 0)
	if !slices.Equal(before, []int{0, 1, 4}) {
		t.Error("an answer changed:", before)
	}
	checkSlots(t, h, 1, 1, 4, 0)
}

// P11.2, P11.7: a heap and its copy, changed on either side: neither is visible in the other one.
func TestCopy(t *testing.T) {
	was := func(h *heap.Heap) {
		t.Helper()
		checkLen(t, h, 3)
		checkAt(t, h, 0, tuple(1, 1, 0))
		checkNone(t, h, api.ErrArg, 1, 4)
		checkAt(t, h, 2, tuple(2, 5, 2))
		checkSlots(t, h, 1, 1, 0, 3)
		checkIDs(t, h, 1, 1)
		checkTables(t, h, 1, 2)
	}
	change := func(h *heap.Heap) {
		t.Helper()
		checkPut(t, h, tuple(1, 9, 4), 1)
		checkPut(t, h, tuple(1, 1, 5), 4)
		checkKill(t, h, 0, 8, 8)
		checkFree(t, h, 2)
		checkNext(t, h, 1, 10)
		checkNext(t, h, 3, 2)
		checkNext(t, h, 4, 1)
	}
	is := func(h *heap.Heap) {
		t.Helper()
		killed := tuple(1, 1, 0)
		killed.Max, killed.CMax = 8, 8
		checkLen(t, h, 4)
		checkAt(t, h, 0, killed)
		checkAt(t, h, 1, tuple(1, 9, 4))
		checkNone(t, h, api.ErrArg, 2, 5)
		checkSlots(t, h, 1, 1, 0, 3, 4)
		checkIDs(t, h, 1, 1, 9)
		checkTables(t, h, 1)
	}
	for side := range 2 {
		h := heapOf(t, tuple(1, 1, 0), tuple(1, 1, 1), tuple(2, 5, 2), tuple(1, 1, 3))
		checkFree(t, h, 1)
		checkNext(t, h, 3, 1)
		sides := []*heap.Heap{h, h.Copy()}
		one, other := sides[side], sides[1-side]
		was(one)
		change(one)
		is(one)
		was(other)
		change(other)
		is(other)
		checkFree(t, one, 0, 1, 3, 4)
		is(other)
		checkBare(t, one, api.ErrArg)
	}
}

// P11.2, P11.7: a copy of a heap without tuples, and of a copy, goes its own way, too.
func TestCopyOfCopies(t *testing.T) {
	bare := heap.New()
	one := bare.Copy()
	checkPut(t, one, tuple(1, 1, 1), 0)
	checkBare(t, bare, api.ErrArg)
	checkNext(t, bare, 1, 1)
	two := one.Copy().Copy()
	checkFree(t, one, 0)
	checkBare(t, one, api.ErrArg)
	checkAt(t, two, 0, tuple(1, 1, 1))
	checkPut(t, two, tuple(1, 1, 2), 1)
	checkNext(t, two, 1, 2)
	checkPut(t, one, tuple(1, 1, 3), 0)
	checkNext(t, one, 1, 2)
	checkSlots(t, one, 1, 1, 0)
	checkSlots(t, two, 1, 1, 0, 1)
	checkPut(t, bare, tuple(1, 1, 4), 0)
	checkAt(t, bare, 0, tuple(1, 1, 4))
	checkAt(t, one, 0, tuple(1, 1, 3))
}

// P11.2, P11.4: very many tuples, freed in an order of their own, and put anew.
func TestWide(t *testing.T) {
	const width = 1 << 15
	h := heap.New()
	for i := range width {
		checkPut(t, h, tuple(1+i%16, 1+i/16, i), i)
	}
	checkLen(t, h, width)
	for i := range width {
		checkFree(t, h, i*12345%width)
	}
	checkBare(t, h, api.ErrArg)
	for i := range width {
		checkPut(t, h, tuple(1, width-i, i), i)
	}
	ids := h.IDs(1)
	if len(ids) != width || ids[0] != 1 || ids[width-1] != width || !slices.IsSorted(ids) {
		t.Error("IDs:", len(ids))
	}
	checkNext(t, h, 1, width+1)
	checkNext(t, h, 16, width/16+1)
	checkSlots(t, h, 1, 1, width-1)
	checkPut(t, h, tuple(1, 1, 1), width)
}
