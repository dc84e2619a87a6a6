package btree

import (
	"testing"
	"unsafe"

	"covenant/api"
)

func one(n int) Entry { return Entry{Key: []api.Value{{Kind: api.Int, N: int64(n)}}} }

// leaf is a leaf of the entries from one number on, below another one.
func leaf(from, to int) *node {
	n := &node{}
	for i := from; i < to; i++ {
		n.entries = append(n.entries, one(i))
	}
	return n
}

// above is a node of entries, with children.
func above(entries []Entry, children ...*node) *node {
	return &node{entries: entries, children: children}
}

func checkWell(t *testing.T, name string, root *node, want bool) {
	t.Helper()
	if got := (&Tree{root: root}).Well(); got != want {
		t.Errorf("%s: %v", name, got)
	}
}

// three is a tree of height 3, with as few entries as it may have.
func three() *node {
	low := above([]Entry{one(3), one(7), one(11)}, leaf(0, 3), leaf(4, 7), leaf(8, 11), leaf(12, 15))
	high := above([]Entry{one(19), one(23), one(27)}, leaf(16, 19), leaf(20, 23), leaf(24, 27), leaf(28, 31))
	return above([]Entry{one(15)}, low, high)
}

// P7.2, P7.4: Well reports whether nodes have as many entries and children as they should, all leaves one depth, and all entries their order.
func TestWellOfNodes(t *testing.T) {
	for n := 1; n <= 7; n++ {
		checkWell(t, "a root alone", leaf(0, n), true)
		checkWell(t, "left leaf", above([]Entry{one(n)}, leaf(0, n), leaf(n+1, n+6)), n >= 3)
		checkWell(t, "right leaf", above([]Entry{one(5)}, leaf(0, 5), leaf(6, 6+n)), n >= 3)
	}
	checkWell(t, "no node", nil, true)
	checkWell(t, "a root of no entries", leaf(0, 0), false)
	checkWell(t, "a root of 8", leaf(0, 8), false)
	checkWell(t, "a root of no entries, with a child", above(nil, leaf(0, 5)), false)
	checkWell(t, "a leaf of 8", above([]Entry{one(8)}, leaf(0, 8), leaf(9, 12)), false)
	checkWell(t, "a leaf of none", above([]Entry{one(5)}, leaf(0, 5), leaf(6, 6)), false)
	checkWell(t, "a child too few", above([]Entry{one(5)}, leaf(0, 5)), false)
	checkWell(t, "a child too many", above([]Entry{one(5)}, leaf(0, 5), leaf(6, 9), leaf(9, 12)), false)
	checkWell(t, "height 3", three(), true)
}

// P7.2, P7.4: a fault is found wherever it is.
func TestWellOfFaults(t *testing.T) {
	for name, spoil := range map[string]func(root *node){
		"a low leaf too small":       func(r *node) { r.children[0].children[1] = leaf(4, 6) },
		"the last leaf too small":    func(r *node) { r.children[1].children[3] = leaf(28, 30) },
		"the last leaf too great":    func(r *node) { r.children[1].children[3] = leaf(28, 36) },
		"a node too small":           func(r *node) { r.children[0] = above([]Entry{one(3), one(7)}, leaf(0, 3), leaf(4, 7), leaf(8, 11)) },
		"a leaf not deep enough":     func(r *node) { r.children[1] = leaf(16, 20) },
		"the first not deep enough":  func(r *node) { r.children[0] = leaf(8, 14) },
		"a leaf too deep":            func(r *node) { r.children[1].children[3] = above([]Entry{one(32)}, leaf(28, 32), leaf(33, 36)) },
		"two equal in a leaf":        func(r *node) { r.children[0].children[2].entries[1] = one(8) },
		"two out of order in a leaf": func(r *node) { e := r.children[1].children[0].entries; e[0], e[1] = e[1], e[0] },
		"two out of order in a node": func(r *node) { e := r.children[1].entries; e[1], e[2] = e[2], e[1] },
		"one before its place":       func(r *node) { r.children[1].children[0].entries[0] = one(14) },
		"one beside itself":          func(r *node) { r.children[0].children[3].entries[2] = one(15) },
		"one behind its place":       func(r *node) { r.children[0].children[3].entries[2] = one(16) },
		"the last before the others": func(r *node) { r.children[1].children[3].entries[2] = one(-1) },
		"children out of order":      func(r *node) { c := r.children; c[0], c[1] = c[1], c[0] },
		"numbers out of order":       func(r *node) { r.children[0].children[0].entries[1] = Entry{Key: one(0).Key, ID: -1} },
	} {
		root := three()
		spoil(root)
		checkWell(t, name, root, false)
	}
	root := three()
	root.children[0].children[0].entries[1] = Entry{Key: one(0).Key, ID: 1}
	checkWell(t, "numbers in order", root, true)
}

// depth checks a node by itself: its entries are between two others, and it answers the depth of its leaves.
func depth(t *testing.T, n *node, low, high *Entry, root bool) int {
	if len(n.entries) > 7 || !root && len(n.entries) < 3 || len(n.entries) < 1 {
		t.Fatal("a node of entries:", len(n.entries))
	}
	for i := range n.entries {
		if low != nil && low.compare(n.entries[i]) >= 0 {
			t.Fatal("not behind the one before it:", n.entries[i])
		}
		low = &n.entries[i]
	}
	if high != nil && low.compare(*high) >= 0 {
		t.Fatal("not before the next one:", *low)
	}
	if len(n.children) == 0 {
		return 1
	}
	if len(n.children) != len(n.entries)+1 {
		t.Fatal("children:", len(n.children), "entries:", len(n.entries))
	}
	deep := 0
	for i, child := range n.children {
		var left, right *Entry
		if i > 0 {
			left = &n.entries[i-1]
		}
		if i < len(n.entries) {
			right = &n.entries[i]
		}
		d := depth(t, child, left, right, false)
		if i > 0 && d != deep {
			t.Fatal("leaves of depths", deep, d)
		}
		deep = d
	}
	return deep + 1
}

// P7.4: looked at node by node, a tree is as it should be, whatever is put and removed.
func TestNodes(t *testing.T) {
	check := func(x *Tree) {
		if x.root == nil {
			return
		}
		if d := depth(t, x.root, nil, nil, true); d != x.Height() || !x.Well() {
			t.Fatal("depth, Height, Well:", d, x.Height(), x.Well())
		}
	}
	const n = 200
	for _, stride := range []int{1, 7, 199} {
		for _, back := range []int{1, 3, 199} {
			x := New()
			for i := range n {
				x.Put(one(i*stride%n).Key, i%2)
				check(x)
			}
			c := x.Copy()
			for i := range n {
				x.Del(one(i*back%n).Key, 0)
				x.Del(one(i*back%n).Key, 1)
				check(x)
			}
			check(c)
			if x.root != nil || x.size != 0 || c.size != n {
				t.Fatal("left:", x.size, c.size)
			}
		}
	}
}

// P7.8: a copy's nodes, lists, keys and texts are new memory.
func TestCopyIsNewMemory(t *testing.T) {
	x := New()
	for i := range 40 {
		x.Put([]api.Value{{Kind: api.Text, T: "abc"}}, i)
	}
	places := map[any]int{}
	count := func(x *Tree) {
		for _, n := range x.root.nodes(1) {
			places[n]++
			places[unsafe.SliceData(n.entries)]++
			if len(n.children) > 0 {
				places[unsafe.SliceData(n.children)]++
			}
			for _, e := range n.entries {
				places[&e.Key[0]]++
				places[unsafe.StringData(e.Key[0].T)]++
			}
		}
	}
	count(x)
	before := len(places)
	count(x.Copy())
	if len(places) != 2*before {
		t.Error("places:", before, len(places))
	}
}
