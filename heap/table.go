package heap

import "slices"

// table is what a heap keeps of a table.
type table struct {
	last  int           // the greatest ID that was assigned, or put
	index map[int][]int // by the IDs of rows that have a tuple: the slots of all of theirs, in the order in which they were put
}

// next assigns a row ID, or none: 0.
func (t *table) next() int {
	if t.last == greatest {
		return 0
	}
	t.last++
	return t.last
}

// enter is told of a tuple of a row that was put.
func (t *table) enter(id, slot int) {
	t.last = max(t.last, id)
	t.index[id] = append(t.index[id], slot)
}

// leave is told of a tuple of a row whose slot is freed.
func (t *table) leave(id, slot int) {
	left := slices.DeleteFunc(t.index[id], func(other int) bool { return other == slot })
	if len(left) == 0 {
		// What is in the index has a tuple: IDs and Tables tell so.
		delete(t.index, id)
		return
	}
	t.index[id] = left
}

// clone is an independent copy.
func (t *table) clone() *table {
	twin := &table{last: t.last, index: map[int][]int{}}
	for id, slots := range t.index {
		twin.index[id] = slices.Clone(slots)
	}
	return twin
}
