package heap

import ordered "container/heap"

// freeSlots are the slots that are free, ordered as container/heap has it: the least one is the first one.
type freeSlots []int

func (f freeSlots) Len() int { return len(f) }

func (f freeSlots) Less(i, j int) bool { return f[i] < f[j] }

func (f freeSlots) Swap(i, j int) { f[i], f[j] = f[j], f[i] }

// Push adds a slot at the end: container/heap calls it, and moves the slot on.
func (f *freeSlots) Push(slot any) { *f = append(*f, slot.(int)) }

// Pop removes the slot at the end, to which container/heap has moved the least one.
func (f *freeSlots) Pop() any {
	last := len(*f) - 1
	slot := (*f)[last]
	*f = (*f)[:last]
	return slot
}

// add adds a slot that was freed.
func (f *freeSlots) add(slot int) { ordered.Push(f, slot) }

// take removes the least slot, and reports whether there is one.
func (f *freeSlots) take() (int, bool) {
	if len(*f) == 0 {
		return 0, false
	}
	return ordered.Pop(f).(int), true
}
