package btree_test

import (
	"math"
	"slices"
	"strconv"
	"testing"
	"unsafe"

	"covenant/api"
	"covenant/btree"
	"covenant/row"
)

const (
	least    = math.MinInt
	greatest = math.MaxInt
)

func number(n int64) api.Value   { return api.Value{Kind: api.Int, N: n} }
func truth(n int64) api.Value    { return api.Value{Kind: api.Bool, N: n} }
func text(s string) api.Value    { return api.Value{Kind: api.Text, T: s} }
func span(n, hi int64) api.Value { return api.Value{Kind: api.Span, N: n, Hi: hi} }

func list(l ...api.Value) []api.Value { return l }

func entry(id int, key ...api.Value) btree.Entry { return btree.Entry{Key: key, ID: id} }

// plain is an entry whose key is one number.
func plain(n int64, id int) btree.Entry { return entry(id, number(n)) }

var (
	null = api.Value{}

	// rising are keys in order: of no values, those that begin others, with NULL, and of unlike Kinds.
	rising = [][]api.Value{
		{},
		{null}, {null, null}, {null, null, null}, {null, number(0)}, {null, text("")},
		{number(math.MinInt64)}, {number(-1)}, {number(0)}, {number(1)},
		{number(2)}, {number(2), null}, {number(2), number(1)}, {number(2), number(1), null}, {number(2), number(1), text("a")}, {number(2), number(2)}, {number(2), text("")},
		{number(math.MaxInt64)}, {number(math.MaxInt64), null},
		{truth(0)}, {truth(1)}, {truth(1), number(1)},
		{text("")}, {text(""), null}, {text("a")}, {text("a"), text("")}, {text("aa")}, {text("b")},
		{span(0, 1)}, {span(0, 2)}, {span(1, 2)}, {span(1, 2), span(0, 1)},
	}
)

func sameEntries(a, b []btree.Entry) bool {
	return slices.EqualFunc(a, b, func(a, b btree.Entry) bool { return a.ID == b.ID && row.Same(a.Key, b.Key) })
}

func checkPut(t *testing.T, x *btree.Tree, key []api.Value, id int, want bool) {
	t.Helper()
	if got := x.Put(key, id); got != want {
		t.Errorf("Put(%+v, %d) = %v", key, id, got)
	}
}

func checkDel(t *testing.T, x *btree.Tree, key []api.Value, id int, want bool) {
	t.Helper()
	if got := x.Del(key, id); got != want {
		t.Errorf("Del(%+v, %d) = %v", key, id, got)
	}
}

func checkFind(t *testing.T, x *btree.Tree, key []api.Value, want ...int) {
	t.Helper()
	if got := x.Find(key); !slices.Equal(got, want) {
		t.Errorf("Find(%+v) = %v, want %v", key, got, want)
	}
}

func checkWalk(t *testing.T, x *btree.Tree, from, to []api.Value, want ...btree.Entry) {
	t.Helper()
	if got := x.Walk(from, to); !sameEntries(got, want) {
		t.Errorf("Walk(%s, %s) = %s, want %s", row.Text(from), row.Text(to), tell(got), tell(want))
	}
}

// tell is how many entries there are, and the first of them.
func tell(entries []btree.Entry) string {
	s := strconv.Itoa(len(entries)) + ":"
	for i, e := range entries {
		if i == 10 {
			return s + " .."
		}
		s += " " + row.Text(e.Key) + " " + strconv.Itoa(e.ID)
	}
	return s
}

// checkSizes checks how many entries and what height a tree has, and that it is well.
func checkSizes(t *testing.T, x *btree.Tree, size, height int) {
	t.Helper()
	if x.Len() != size || x.Height() != height || !x.Well() {
		t.Errorf("Len, Height, Well = %d, %d, %v, want %d, %d", x.Len(), x.Height(), x.Well(), size, height)
	}
}

func treeOf(entries ...btree.Entry) *btree.Tree {
	x := btree.New()
	for _, e := range entries {
		x.Put(e.Key, e.ID)
	}
	return x
}

// P7.1, P7.2: a new tree has no entries, and each is another one.
func TestNew(t *testing.T) {
	x, y := btree.New(), btree.New()
	for _, x := range []*btree.Tree{x, x.Copy(), {}} {
		checkSizes(t, x, 0, 0)
		checkWalk(t, x, nil, nil)
		checkWalk(t, x, list(number(1)), list(number(2)))
		checkFind(t, x, nil)
		checkFind(t, x, list(number(1)))
		checkDel(t, x, nil, 0, false)
		checkDel(t, x, list(number(1)), 1, false)
		checkSizes(t, x, 0, 0)
		checkPut(t, x, list(number(1)), 1, true)
		checkSizes(t, x, 1, 1)
	}
	checkSizes(t, y, 0, 0)
}

// P7.1, P7.2: of nil each call answers nothing, and Well is true.
func TestNil(t *testing.T) {
	var x *btree.Tree
	for _, key := range rising {
		checkPut(t, x, key, 1, false)
		checkFind(t, x, key)
		checkDel(t, x, key, 1, false)
		checkWalk(t, x, key, nil)
		checkWalk(t, x, nil, key)
	}
	checkSizes(t, x, 0, 0)
	if x.Copy() != nil || x.Find(nil) != nil || x.Walk(nil, nil) != nil {
		t.Error("of nil:", x.Copy(), x.Find(nil), x.Walk(nil, nil))
	}
}

// P7.1: Put adds what is not there, Del removes what is there; whatever else they are asked, nothing is done.
func TestPutAndDel(t *testing.T) {
	x := btree.New()
	one, two := list(number(1)), list(number(2))
	checkPut(t, x, one, 5, true)
	checkPut(t, x, one, 5, false)
	checkPut(t, x, one, 6, true)
	checkPut(t, x, two, 5, true)
	checkPut(t, x, one, 6, false)
	checkPut(t, x, two, 5, false)
	checkSizes(t, x, 3, 1)
	checkDel(t, x, two, 6, false)
	checkDel(t, x, one, 4, false)
	checkDel(t, x, one, 7, false)
	checkDel(t, x, list(number(0)), 5, false)
	checkDel(t, x, list(number(3)), 5, false)
	checkDel(t, x, list(number(1), null), 5, false)
	checkDel(t, x, nil, 5, false)
	checkSizes(t, x, 3, 1)
	checkWalk(t, x, nil, nil, plain(1, 5), plain(1, 6), plain(2, 5))
	checkDel(t, x, one, 5, true)
	checkDel(t, x, one, 5, false)
	checkWalk(t, x, nil, nil, plain(1, 6), plain(2, 5))
	checkPut(t, x, one, 5, true)
	checkDel(t, x, one, 6, true)
	checkDel(t, x, two, 5, true)
	checkWalk(t, x, nil, nil, plain(1, 5))
	checkSizes(t, x, 1, 1)
	checkDel(t, x, one, 5, true)
	checkDel(t, x, one, 5, false)
	checkSizes(t, x, 0, 0)
	checkWalk(t, x, nil, nil)
	checkPut(t, x, one, 5, true)
	checkSizes(t, x, 1, 1)
}

// P7.1: what is there already is not added in a tree of several nodes either, and what is not there not removed, wherever it would be.
func TestPutAndDelOfNeighbours(t *testing.T) {
	for _, n := range []int{7, 8, 9, 40, 200} {
		x := btree.New()
		for i := range n {
			x.Put(list(number(int64(2*i))), 2*i)
		}
		height, all := x.Height(), x.Walk(nil, nil)
		for i := range n {
			even := list(number(int64(2 * i)))
			checkPut(t, x, even, 2*i, false)
			checkDel(t, x, even, 2*i-1, false)
			checkDel(t, x, even, 2*i+1, false)
			checkDel(t, x, list(number(int64(2*i-1))), 2*i, false)
			checkDel(t, x, list(number(int64(2*i+1))), 2*i, false)
		}
		checkSizes(t, x, n, height)
		checkWalk(t, x, nil, nil, all...)
	}
}

// P7.2: Find returns the numbers of one key in increasing order, whatever stands beside it.
func TestFind(t *testing.T) {
	x := btree.New()
	ids := []int{greatest, -1, 7, least, 0, 1, -7, least + 1, greatest - 1, 12, 1 << 32, -1 << 32}
	for _, id := range ids {
		checkPut(t, x, list(number(1)), id, true)
		checkPut(t, x, list(number(2)), -id, true)
	}
	checkPut(t, x, list(number(1), null), 3, true)
	checkPut(t, x, list(null), 4, true)
	checkPut(t, x, nil, 5, true)
	sorted := []int{least, least + 1, -1 << 32, -7, -1, 0, 1, 7, 12, 1 << 32, greatest - 1, greatest}
	checkFind(t, x, list(number(1)), sorted...)
	checkFind(t, x, list(number(1), null), 3)
	checkFind(t, x, list(null), 4)
	checkFind(t, x, nil, 5)
	checkFind(t, x, list(), 5)
	for _, k := range [][]api.Value{{number(0)}, {number(3)}, {truth(1)}, {text("1")}, {span(1, 2)}, {number(1), number(1)}, {null, null}, {number(2), null}} {
		checkFind(t, x, k)
		if x.Find(k) != nil {
			t.Errorf("Find(%+v) is not nil", k)
		}
	}
	checkSizes(t, x, 2*len(ids)+3, x.Height())
}

// P7.2: one number under unlike keys is an entry for each of them.
func TestOneNumberOfManyKeys(t *testing.T) {
	x := btree.New()
	for _, k := range rising {
		checkPut(t, x, k, -3, true)
	}
	for i, k := range rising {
		checkFind(t, x, k, -3)
		checkDel(t, x, k, -3, true)
		checkFind(t, x, k)
		checkSizes(t, x, len(rising)-i-1, x.Height())
	}
}

// P7.2: the key of no values, and a list that is nil, are the same key.
func TestKeyOfNoValues(t *testing.T) {
	x := btree.New()
	checkPut(t, x, nil, 2, true)
	checkPut(t, x, list(), 2, false)
	checkPut(t, x, list(), 1, true)
	checkPut(t, x, list(null), 0, true)
	checkFind(t, x, nil, 1, 2)
	checkFind(t, x, list(), 1, 2)
	checkWalk(t, x, nil, list(null), entry(1), entry(2))
	checkWalk(t, x, nil, nil, entry(1), entry(2), entry(0, null))
	checkDel(t, x, list(), 2, true)
	checkDel(t, x, nil, 1, true)
	checkDel(t, x, nil, 0, false)
	checkWalk(t, x, list(), list(), entry(0, null))
}

// P7.2: Walk has the keys in order, those that begin others before them, and unlike Kinds as values are ordered.
func TestOrderOfKeys(t *testing.T) {
	for step := range len(rising) {
		x := btree.New()
		var want []btree.Entry
		for i := range rising {
			// Put from another place on each time, so that the order does not come from that of the puts.
			k := rising[(i*5+step)%len(rising)]
			checkPut(t, x, k, i, true)
			checkPut(t, x, k, -i-1, true)
		}
		for _, k := range rising {
			ids := x.Find(k)
			if len(ids) != 2 || ids[0] >= 0 || ids[1] < 0 {
				t.Fatalf("Find(%+v) = %v", k, ids)
			}
			want = append(want, btree.Entry{Key: k, ID: ids[0]}, btree.Entry{Key: k, ID: ids[1]})
		}
		checkWalk(t, x, nil, nil, want...)
		for i, from := range rising {
			checkWalk(t, x, from, nil, want[2*i:]...)
			for j, to := range rising {
				// The key of no values is no bound.
				if j == 0 {
					j = len(rising)
				}
				checkWalk(t, x, from, to, want[2*i:2*max(i, j)]...)
			}
		}
	}
}

// P7.2: invalid values, too, are keys, each another one.
func TestInvalidValues(t *testing.T) {
	odd := []api.Value{
		{N: 1}, {Hi: 1}, {T: "a"}, {Kind: api.Int, N: 1, Hi: 1}, {Kind: api.Int, N: 1, T: "a"}, {Kind: api.Bool, N: 2}, {Kind: api.Bool, N: -1},
		{Kind: api.Text, T: "a", N: 1}, {Kind: api.Text, T: "\xff"}, {Kind: api.Span, N: 2, Hi: 2}, {Kind: api.Span, N: 3, Hi: 2}, {Kind: 5}, {Kind: 255, N: 1, Hi: 2, T: "x"},
	}
	x := btree.New()
	for i, v := range odd {
		checkPut(t, x, list(v), i, true)
		checkPut(t, x, list(v), i, false)
	}
	checkSizes(t, x, len(odd), 2)
	for i, v := range odd {
		checkFind(t, x, list(v), i)
	}
	for i, v := range odd {
		checkDel(t, x, list(v), i, true)
		checkDel(t, x, list(v), i, false)
	}
	checkSizes(t, x, 0, 0)
}

// P7.2: Walk with no bound, one, and both, from keys that are there and keys that are not.
func TestWalk(t *testing.T) {
	for _, n := range []int{1, 2, 7, 8, 9, 31, 32, 64, 80} {
		x := btree.New()
		var all []btree.Entry
		for i := range n {
			checkPut(t, x, list(number(int64(2*i))), i, true)
			all = append(all, plain(int64(2*i), i))
		}
		checkWalk(t, x, nil, nil, all...)
		checkWalk(t, x, list(), list(), all...)
		for from := -1; from <= 2*n; from++ {
			first := (from + 1) / 2
			key := list(number(int64(from)))
			checkWalk(t, x, key, nil, all[first:]...)
			checkWalk(t, x, nil, key, all[:first]...)
			checkWalk(t, x, list(), key, all[:first]...)
			checkWalk(t, x, key, key)
			for to := -1; to <= 2*n; to++ {
				checkWalk(t, x, key, list(number(int64(to))), all[first:max(first, (to+1)/2)]...)
			}
		}
		checkWalk(t, x, list(truth(0)), nil)
		checkWalk(t, x, list(null), nil, all...)
		checkWalk(t, x, nil, list(null))
		checkWalk(t, x, nil, list(truth(0)), all...)
		checkWalk(t, x, list(truth(0)), list(null))
	}
}

// P7.2: bounds are keys alone: of a key all numbers are on one side of it.
func TestWalkOfManyNumbers(t *testing.T) {
	x := btree.New()
	var zeros, ones, longer []btree.Entry
	for id := -20; id < 20; id++ {
		zeros = append(zeros, plain(0, id))
		ones = append(ones, plain(1, id))
		longer = append(longer, entry(id, number(1), null))
	}
	all := slices.Concat(zeros, ones, longer)
	for i := range all {
		e := all[i*7%len(all)]
		checkPut(t, x, e.Key, e.ID, true)
	}
	one, longOne := list(number(1)), list(number(1), null)
	checkWalk(t, x, nil, nil, all...)
	checkWalk(t, x, nil, one, zeros...)
	checkWalk(t, x, one, nil, all[len(zeros):]...)
	checkWalk(t, x, one, longOne, ones...)
	checkWalk(t, x, longOne, nil, longer...)
	checkWalk(t, x, longOne, one)
	checkWalk(t, x, one, one)
	checkWalk(t, x, list(number(0)), longOne, all[:len(zeros)+len(ones)]...)
	checkWalk(t, x, list(number(0), null), one)
	checkWalk(t, x, list(number(1), null, null), nil)
}

// P7.2, P7.5: up to 6 entries are in one node, from 8 on there are two levels.
func TestHeightOfFew(t *testing.T) {
	for _, keys := range [][]int64{{0, 1, 2, 3, 4, 5, 6, 7}, {7, 6, 5, 4, 3, 2, 1, 0}, {3, 6, 0, 7, 1, 5, 2, 4}} {
		x := btree.New()
		for i, k := range keys {
			checkPut(t, x, list(number(k)), 0, true)
			switch {
			case i+1 <= 6:
				checkSizes(t, x, i+1, 1)
			case i+1 == 8:
				checkSizes(t, x, 8, 2)
			}
		}
		for i, k := range keys {
			checkDel(t, x, list(number(k)), 0, true)
			if left := len(keys) - i - 1; left <= 6 {
				checkSizes(t, x, left, min(left, 1))
			}
		}
	}
}

// P7.1, P7.4: any entry of a tree of any size may be removed, the root's and those of nodes that have children among them, and put again.
func TestDelOfEach(t *testing.T) {
	for n := range 100 {
		full := btree.New()
		var all []btree.Entry
		for i := range n {
			full.Put(list(number(int64(i))), -i)
			all = append(all, plain(int64(i), -i))
		}
		for i := range n {
			x, key := full.Copy(), list(number(int64(i)))
			checkDel(t, x, key, -i, true)
			checkSizes(t, x, n-1, x.Height())
			checkWalk(t, x, nil, nil, slices.Delete(slices.Clone(all), i, i+1)...)
			checkPut(t, x, key, -i, true)
			checkSizes(t, x, n, x.Height())
			checkWalk(t, x, nil, nil, all...)
		}
	}
}

// P7.8: a copy has the same entries, and what is done to one is not done to the other; a copy of a copy likewise.
func TestCopy(t *testing.T) {
	for n := range 100 {
		x := btree.New()
		for i := range n {
			x.Put(list(number(int64(2*i)), text("a")), i)
		}
		all := x.Walk(nil, nil)
		copies := []*btree.Tree{x, x.Copy(), x.Copy().Copy(), x.Copy()}
		for _, c := range copies {
			checkSizes(t, c, n, x.Height())
			checkWalk(t, c, nil, nil, all...)
		}
		copies[1].Put(list(number(int64(n))), -1)
		checkSizes(t, copies[1], n+1, copies[1].Height())
		for i := range n {
			checkDel(t, copies[2], list(number(int64(2*i)), text("a")), i, true)
			checkPut(t, copies[0], list(number(int64(2*i+1))), i, true)
		}
		checkSizes(t, copies[0], 2*n, copies[0].Height())
		checkSizes(t, copies[1], n+1, copies[1].Height())
		checkSizes(t, copies[2], 0, 0)
		checkSizes(t, copies[3], n, copies[3].Height())
		checkWalk(t, copies[3], nil, nil, all...)
		checkDel(t, copies[1], list(number(int64(n))), -1, true)
		checkWalk(t, copies[1], nil, nil, all...)
	}
}

// P7.1, P7.2: keys that are handed in stay as they were.
func TestArgumentsStay(t *testing.T) {
	x := btree.New()
	for i, k := range rising {
		// What lies behind the key, in the same array, is not the tree's either.
		array := append(slices.Clone(k), text("behind"), number(9))
		key := array[:len(k)]
		x.Put(key, i)
		x.Put(key, i)
		x.Put(key, -i)
		x.Find(key)
		x.Walk(key, nil)
		x.Walk(nil, key)
		x.Del(key, -i)
		x.Del(key, 99)
		x.Well()
		x.Copy()
		if !row.Same(array, append(slices.Clone(k), text("behind"), number(9))) {
			t.Errorf("%+v became %+v", k, array)
		}
	}
}

// P7.1: a tree keeps nothing of the keys that it is given.
func TestNothingIsKept(t *testing.T) {
	x := btree.New()
	bytes := []byte("abc")
	key := list(text(unsafe.String(&bytes[0], len(bytes))), number(1))
	for id := range 20 {
		checkPut(t, x, key, id, true)
	}
	copy(bytes, "xyz")
	key[1] = number(2)
	for id, e := range x.Walk(nil, nil) {
		if e.ID != id || !row.Same(e.Key, list(text("abc"), number(1))) {
			t.Errorf("%+v", e)
		}
	}
	checkSizes(t, x, 20, 2)
	checkFind(t, x, key)
}

// P7.2: what Find and Walk answer is new memory, each time, and no two keys of one answer share any.
func TestAnswersAreNewMemory(t *testing.T) {
	x := btree.New()
	key := list(text("abc"), number(1))
	for id := range 20 {
		x.Put(key, id)
	}
	all := x.Walk(nil, nil)
	ids := x.Find(key)
	for i := range ids {
		ids[i] = -1
	}
	texts := map[*byte]int{unsafe.StringData(key[0].T): 1}
	for _, l := range [][]btree.Entry{all, x.Walk(key, nil), x.Walk(nil, list(truth(0))), x.Copy().Walk(nil, nil), x.Walk(nil, list(span(0, 1)))} {
		for i := range l {
			texts[unsafe.StringData(l[i].Key[0].T)]++
			l[i].Key[0], l[i].Key[1] = text("x"), number(int64(i))
			l[i].ID = -1
			_ = append(l[i].Key, number(7))
		}
	}
	if len(texts) != 1+20+20+20+20 {
		t.Error("texts:", len(texts))
	}
	checkFind(t, x, key, 0, 1, 2, 3, 4, 5, 6, 7, 8, 9, 10, 11, 12, 13, 14, 15, 16, 17, 18, 19)
	for id, e := range x.Walk(nil, nil) {
		if e.ID != id || !row.Same(e.Key, key) {
			t.Errorf("%+v", e)
		}
	}
	for i, e := range all {
		if !row.Same(e.Key, list(text("x"), number(int64(i)))) {
			t.Errorf("two keys share memory: %+v", e)
		}
	}
}

// P7.1, P7.2: trees of many entries, and keys of many values, and of long texts.
func TestMany(t *testing.T) {
	const n = 100000
	x := btree.New()
	for i := range n {
		if !x.Put(list(number(int64(i*7919%n))), i) {
			t.Fatal("Put", i)
		}
	}
	if x.Len() != n || x.Height() < 6 || x.Height() > 9 || !x.Well() {
		t.Fatal("Len, Height, Well:", x.Len(), x.Height(), x.Well())
	}
	for i, e := range x.Walk(nil, nil) {
		if e.Key[0].N != int64(i) || e.ID*7919%n != i {
			t.Fatalf("%d: %+v", i, e)
		}
	}
	c := x.Copy()
	for i := range n {
		k := list(number(int64(i * 3 % n)))
		ids := x.Find(k)
		if len(ids) != 1 || len(x.Walk(k, append(k, null))) != 1 || !x.Del(k, ids[0]) || x.Len() != n-1-i {
			t.Fatal("Find, Del:", i, ids)
		}
	}
	checkSizes(t, x, 0, 0)
	if c.Len() != n || !c.Well() {
		t.Error("the copy:", c.Len())
	}
}

// P7.1, P7.2: keys of any number of values, and texts of any length.
func TestLongKeys(t *testing.T) {
	long := make([]api.Value, 100000)
	for i := range long {
		long[i] = number(int64(i))
	}
	wide := text(string(make([]byte, 1<<20)))
	x := btree.New()
	for id := range 10 {
		checkPut(t, x, long, id, true)
		checkPut(t, x, long[:len(long)-1], id, true)
		checkPut(t, x, list(wide), id, true)
	}
	checkFind(t, x, long, 0, 1, 2, 3, 4, 5, 6, 7, 8, 9)
	checkFind(t, x, list(wide), 0, 1, 2, 3, 4, 5, 6, 7, 8, 9)
	if l := x.Walk(long, list(wide)); len(l) != 10 || !row.Same(l[9].Key, long) {
		t.Error("Walk:", len(l))
	}
	checkDel(t, x, long, 3, true)
	checkDel(t, x, long, 3, false)
	checkSizes(t, x, 29, 2)
}

// The chapter's examples.
func TestExamples(t *testing.T) {
	x := btree.New()
	checkPut(t, x, list(number(1)), 5, true)
	checkPut(t, x, list(number(1)), 5, false)
	checkFind(t, x, list(number(1)), 5)
	checkSizes(t, x, 1, 1)
	x = treeOf(plain(2, 1), plain(1, 9), plain(1, 5))
	checkWalk(t, x, nil, nil, plain(1, 5), plain(1, 9), plain(2, 1))
	checkWalk(t, x, list(number(1)), list(number(2)), plain(1, 5), plain(1, 9))
	x = btree.New()
	for i := range 8 {
		checkPut(t, x, list(number(int64(i))), 0, true)
	}
	checkSizes(t, x, 8, 2)
}
