package btree_test

import (
	"cmp"
	"slices"
	"testing"

	"covenant/api"
	"covenant/btree"
	"covenant/row"
)

// sorted is a list of entries that is kept sorted: what a tree of them should be like.
type sorted []btree.Entry

func before(a, b btree.Entry) int {
	return cmp.Or(row.Compare(a.Key, b.Key), cmp.Compare(a.ID, b.ID))
}

func (l *sorted) put(e btree.Entry) bool {
	i, there := slices.BinarySearchFunc(*l, e, before)
	if !there {
		*l = slices.Insert(*l, i, e)
	}
	return !there
}

func (l *sorted) del(e btree.Entry) bool {
	i, there := slices.BinarySearchFunc(*l, e, before)
	if there {
		*l = slices.Delete(*l, i, i+1)
	}
	return there
}

// power is b to the power k.
func power(b, k int) int {
	p := 1
	for range k {
		p *= b
	}
	return p
}

// mayHave reports whether a tree of a height may have so many entries.
func mayHave(height, size int) bool {
	switch height {
	case 0:
		return size == 0
	case 1:
		return size >= 1 && size <= 7
	}
	return size >= 2*power(4, height-1)-1 && size <= power(8, height)-1
}

// checkShape checks what holds for any tree: it is well, and as high as its entries allow.
func checkShape(t *testing.T, x *btree.Tree, size int) {
	t.Helper()
	if x.Len() != size || !x.Well() || !mayHave(x.Height(), size) {
		t.Fatalf("Len, Height, Well = %d, %d, %v of %d entries", x.Len(), x.Height(), x.Well(), size)
	}
}

// checkLike checks that a tree is as a list that is kept sorted.
func checkLike(t *testing.T, x *btree.Tree, l sorted) {
	t.Helper()
	checkShape(t, x, len(l))
	if got := x.Walk(nil, nil); !sameEntries(got, l) {
		t.Fatalf("Walk = %s, want %s", tell(got), tell(l))
	}
}

// orders calls f with each order of the numbers from 0 to n less 1.
func orders(n int, f func(order []int)) {
	order := make([]int, n)
	for i := range order {
		order[i] = i
	}
	var from func(i int)
	from = func(i int) {
		if i == n {
			f(order)
			return
		}
		for j := i; j < n; j++ {
			order[i], order[j] = order[j], order[i]
			from(i + 1)
			order[i], order[j] = order[j], order[i]
		}
	}
	from(0)
}

// someEntries are the first n of some that differ in their keys, in their numbers, or in both.
func someEntries(n int) []btree.Entry {
	var entries []btree.Entry
	for i := range n {
		switch i % 3 {
		case 0:
			entries = append(entries, plain(int64(i/3), -i))
		case 1:
			entries = append(entries, plain(int64(i/3), i))
		default:
			entries = append(entries, entry(0, number(int64(i/3)), text("a")))
		}
	}
	return entries
}

// P7.3, P7.7: put in whatever order, up to 8 entries are the same; removed in whatever order, none is left.
func TestAllOrders(t *testing.T) {
	for n := range 9 {
		all := someEntries(n)
		want := slices.SortedFunc(slices.Values(all), before)
		orders(n, func(order []int) {
			x := btree.New()
			for i, o := range order {
				checkPut(t, x, all[o].Key, all[o].ID, true)
				checkShape(t, x, i+1)
			}
			checkLike(t, x, want)
			for i, o := range order {
				checkDel(t, x, all[o].Key, all[o].ID, true)
				checkShape(t, x, n-i-1)
			}
			checkLike(t, x, nil)
		})
	}
}

// P7.7: from trees of several nodes, that were put in rising order, the last entries are removed in whatever order.
func TestDelInAllOrders(t *testing.T) {
	for n := 8; n <= 40; n += 8 {
		all := someEntries(n)
		full := treeOf(all...)
		orders(6, func(order []int) {
			x, left := full.Copy(), sorted(full.Walk(nil, nil))
			for _, o := range order {
				e := all[(o*5+n)%n]
				checkDel(t, x, e.Key, e.ID, left.del(e))
				checkLike(t, x, left)
			}
		})
	}
}

// mixed are orders of n entries: rising, falling, from both ends, from the middle, and with strides.
func mixed(n int) [][]int {
	up := make([]int, n)
	for i := range up {
		up[i] = i
	}
	down := slices.Clone(up)
	slices.Reverse(down)
	inwards := make([]int, n)
	for i := range n {
		inwards[i] = i / 2
		if i%2 == 1 {
			inwards[i] = n - 1 - i/2
		}
	}
	outwards := slices.Clone(inwards)
	slices.Reverse(outwards)
	all := [][]int{up, down, inwards, outwards}
	for _, stride := range []int{7, 31, 97} {
		order := make([]int, n)
		for i := range n {
			order[i] = i * stride % n
		}
		all = append(all, order)
	}
	return all
}

// P7.3, P7.4, P7.5, P7.7: trees that grow and shrink in rising, falling and mixed order are, at each count, as they should be.
func TestGrowAndShrink(t *testing.T) {
	// No multiple of a stride of mixed, and enough for trees of height 4.
	const n = 211
	all := someEntries(n)
	want := slices.SortedFunc(slices.Values(all), before)
	for _, puts := range mixed(n) {
		for _, dels := range mixed(n) {
			x := btree.New()
			for i, o := range puts {
				checkPut(t, x, all[o].Key, all[o].ID, true)
				checkShape(t, x, i+1)
			}
			checkLike(t, x, want)
			for i, o := range dels {
				checkDel(t, x, all[o].Key, all[o].ID, true)
				checkShape(t, x, n-i-1)
			}
			checkLike(t, x, nil)
		}
	}
}

// steps is a source of numbers that look mixed, the same each time.
type steps uint64

func (s *steps) below(n int) int {
	*s = *s*6364136223846793005 + 1442695040888963407
	return int(uint64(*s) >> 33 % uint64(n))
}

// P7.3, P7.4: after whatever was put and removed, Walk is a list that is kept sorted, and Find has its numbers.
func TestAsAList(t *testing.T) {
	for seed := range 40 {
		s, x, l := steps(seed), btree.New(), sorted(nil)
		size := 10 + 40*seed
		for range 600 {
			e := btree.Entry{Key: rising[s.below(len(rising))], ID: s.below(size) - size/2}
			// Now it is put more often, now removed more often.
			if s.below(600) < 450-seed*7 {
				checkPut(t, x, e.Key, e.ID, l.put(e))
			} else {
				if len(l) > 0 && s.below(3) > 0 {
					e = l[s.below(len(l))]
				}
				checkDel(t, x, e.Key, e.ID, l.del(e))
			}
			checkLike(t, x, l)
		}
		for _, k := range rising {
			var ids []int
			for _, e := range l {
				if row.Same(e.Key, k) {
					ids = append(ids, e.ID)
				}
			}
			checkFind(t, x, k, ids...)
		}
	}
}

// P7.6: Walk up to a key, and from it on, together are Walk of everything; Find has what Walk has of a key.
func TestParts(t *testing.T) {
	s, x := steps(5), btree.New()
	for n := range 120 {
		checkParts(t, x)
		x.Put(rising[s.below(len(rising))], s.below(9)-4)
		if n%3 == 2 {
			all := x.Walk(nil, nil)
			e := all[s.below(len(all))]
			checkDel(t, x, e.Key, e.ID, true)
		}
	}
}

func checkParts(t *testing.T, x *btree.Tree) {
	t.Helper()
	all := x.Walk(nil, nil)
	for _, k := range rising {
		// The key of no values is no bound behind.
		if len(k) > 0 {
			checkWalk(t, x, nil, nil, slices.Concat(x.Walk(nil, k), x.Walk(k, nil))...)
		}
		var ids []int
		for _, e := range all {
			if row.Same(e.Key, k) {
				ids = append(ids, e.ID)
			}
		}
		checkFind(t, x, k, ids...)
		for _, to := range rising[1:] {
			var want []btree.Entry
			for _, e := range all {
				if row.Compare(e.Key, k) >= 0 && row.Compare(e.Key, to) < 0 {
					want = append(want, e)
				}
			}
			checkWalk(t, x, k, to, want...)
		}
	}
}

// P7.8: many copies, and copies of copies, each changed afterwards, are each as a list of its own.
func TestCopiesAsLists(t *testing.T) {
	s := steps(11)
	trees, lists := []*btree.Tree{btree.New()}, []sorted{nil}
	for range 2500 {
		i := s.below(len(trees))
		e := btree.Entry{Key: list(number(int64(s.below(30)))), ID: s.below(4)}
		switch s.below(20) {
		case 0:
			j := s.below(len(trees))
			if len(trees) < 12 {
				trees, lists = append(trees, nil), append(lists, nil)
				j = len(trees) - 1
			}
			trees[j], lists[j] = trees[i].Copy(), slices.Clone(lists[i])
		case 1, 2, 3, 4, 5, 6, 7:
			checkDel(t, trees[i], e.Key, e.ID, lists[i].del(e))
		default:
			checkPut(t, trees[i], e.Key, e.ID, lists[i].put(e))
		}
		for j := range trees {
			checkLike(t, trees[j], lists[j])
		}
	}
}

// P7.2: with one key under many numbers, and many keys under one number, a tree is ordered by keys first.
func TestKeysBeforeNumbers(t *testing.T) {
	x, l := btree.New(), sorted(nil)
	for k := range 25 {
		for id := range 25 {
			e := plain(int64(k*11%25), 12-id*7%25)
			checkPut(t, x, e.Key, e.ID, l.put(e))
		}
	}
	checkLike(t, x, l)
	for k := range 25 {
		key := []api.Value{number(int64(k))}
		var ids []int
		for id := -12; id <= 12; id++ {
			ids = append(ids, id)
		}
		checkFind(t, x, key, ids...)
	}
}
