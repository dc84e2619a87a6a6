package btree

import (
	"cmp"
	"iter"
	"slices"
	"strings"

	"covenant/api"
	"covenant/row"
)

// How many entries a node has; the root may have fewer.
const (
	fewest = 3
	most   = 7
)

// node has entries, in order, and is a leaf, or has one child more than entries.
type node struct {
	entries  []Entry
	children []*node
}

// compareKey is how an entry's key stands to a key.
func (e Entry) compareKey(key []api.Value) int { return row.Compare(e.Key, key) }

// compare is how an entry stands to another one.
func (e Entry) compare(other Entry) int {
	if c := e.compareKey(other.Key); c != 0 {
		return c
	}
	return cmp.Compare(e.ID, other.ID)
}

// clone is an entry whose key, with its texts, is its own.
func (e Entry) clone() Entry {
	key := slices.Clone(e.Key)
	for i := range key {
		key[i].T = strings.Clone(key[i].T)
	}
	return Entry{Key: key, ID: e.ID}
}

// clone is a node, with all below it, that shares nothing with n.
func (n *node) clone() *node {
	if n == nil {
		return nil
	}
	twin := &node{}
	for _, e := range n.entries {
		twin.entries = append(twin.entries, e.clone())
	}
	for _, child := range n.children {
		twin.children = append(twin.children, child.clone())
	}
	return twin
}

func (n *node) leaf() bool { return len(n.children) == 0 }

// first is a node's first child; a leaf has none.
func (n *node) first() *node {
	if n.leaf() {
		return nil
	}
	return n.children[0]
}

// nodes produces a node and all below it, each with its depth.
func (n *node) nodes(depth int) iter.Seq2[int, *node] {
	return func(yield func(int, *node) bool) {
		if n == nil || !yield(depth, n) {
			return
		}
		for _, child := range n.children {
			for deeper, below := range child.nodes(depth + 1) {
				if !yield(deeper, below) {
					return
				}
			}
		}
	}
}

// from produces the entries of a node and of all below it, in order, whose keys are not before key.
func (n *node) from(key []api.Value) iter.Seq[Entry] {
	return func(yield func(Entry) bool) {
		if n == nil {
			return
		}
		start, _ := slices.BinarySearchFunc(n.entries, key, Entry.compareKey)
		for i := start; i <= len(n.entries); i++ {
			if !n.leaf() {
				for e := range n.children[i].from(key) {
					if !yield(e) {
						return
					}
				}
			}
			if i < len(n.entries) && !yield(n.entries[i]) {
				return
			}
		}
	}
}

// put adds an entry to a node or below it; the node may then have one entry too many.
func (n *node) put(e Entry) bool {
	i, there := slices.BinarySearchFunc(n.entries, e, Entry.compare)
	switch {
	case there:
		return false
	case n.leaf():
		n.entries = slices.Insert(n.entries, i, e.clone())
	case !n.children[i].put(e):
		return false
	default:
		n.mend(i)
	}
	return true
}

// del removes an entry from a node or from below it; the node may then have one entry too few.
func (n *node) del(e Entry) bool {
	i, there := slices.BinarySearchFunc(n.entries, e, Entry.compare)
	switch {
	case n.leaf() && !there:
		return false
	case n.leaf():
		n.entries = slices.Delete(n.entries, i, i+1)
	case there:
		// The children beside the entry stay apart: what is next before it takes its place.
		n.entries[i] = n.children[i].pop()
		n.mend(i)
	case !n.children[i].del(e):
		return false
	default:
		n.mend(i)
	}
	return true
}

// pop removes the last entry of a node and of all below it.
func (n *node) pop() Entry {
	last := len(n.entries)
	if n.leaf() {
		e := n.entries[last-1]
		n.entries = slices.Delete(n.entries, last-1, last)
		return e
	}
	e := n.children[last].pop()
	n.mend(last)
	return e
}

// mend gives child i, of one entry too few or too many, as many as it should have.
func (n *node) mend(i int) {
	if len(n.children[i].entries) < fewest {
		i = max(i-1, 0)
		n.join(i)
	}
	// Two that were joined may be too many for one node: then they are parted anew, in the middle.
	if len(n.children[i].entries) > most {
		n.split(i)
	}
}

// split parts child i in two; its middle entry goes between them.
func (n *node) split(i int) {
	child := n.children[i]
	middle := len(child.entries) / 2
	e := child.entries[middle]
	// Both halves lie in one array: the first one ends with its capacity, so that it does not grow into the second one.
	left := &node{entries: child.entries[:middle:middle]}
	right := &node{entries: child.entries[middle+1:]}
	if !child.leaf() {
		left.children = child.children[: middle+1 : middle+1]
		right.children = child.children[middle+1:]
	}
	n.entries = slices.Insert(n.entries, i, e)
	n.children = slices.Replace(n.children, i, i+1, left, right)
}

// join makes one child of child i, the entry behind it, and the next child.
func (n *node) join(i int) {
	left, right := n.children[i], n.children[i+1]
	n.children[i] = &node{
		entries:  slices.Concat(left.entries, n.entries[i:i+1], right.entries),
		children: slices.Concat(left.children, right.children),
	}
	n.entries = slices.Delete(n.entries, i, i+1)
	n.children = slices.Delete(n.children, i+1, i+2)
}
