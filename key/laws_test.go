package key_test

import (
	"slices"
	"strings"
	"testing"

	"covenant/api"
	"covenant/key"
	"covenant/row"
)

// lists are all lists of up to most of these elements.
func lists[T any](most int, elements []T) [][]T {
	all := [][]T{nil}
	for from, n := 0, 1; n <= most; n++ {
		to := len(all)
		for _, l := range all[from:to] {
			for _, e := range elements {
				all = append(all, append(slices.Clone(l), e))
			}
		}
		from = to
	}
	return all
}

// seen are values that differ from each other in one field alone, and NULL.
var seen = list(null, number(0), number(1), truth(1), text(""), text("a"), span(0, 1), span(1, 2), span(1, 3))

// distinct reports whether columns are from 0 to n less 1, each named once: it counts how often each is named.
func distinct(cols []int, n int) bool {
	named := map[int]int{}
	for _, c := range cols {
		named[c]++
	}
	found := 0
	for c := range max(n, 0) {
		if named[c] == 1 {
			found++
		}
	}
	return found > 0 && found == len(cols)
}

// P6.1: of all short lists of columns those are valid that name some of the row's, each once; Of, Set and Refers refuse the others.
func TestMayOfAllShortLists(t *testing.T) {
	for n := -1; n <= 4; n++ {
		l := make([]api.Value, max(n, 0))
		for i := range l {
			l[i] = number(int64(10 + i))
		}
		for _, cols := range lists(5, []int{-1, 0, 1, 2, 3, 4}) {
			want := distinct(cols, n)
			if got := key.May(cols, n); got != want {
				t.Fatalf("May(%v, %d) = %v", cols, n, got)
			}
			k := make([]api.Value, len(cols))
			for i, c := range cols {
				k[i] = number(int64(10 + c))
			}
			got, e := key.Of(l, cols)
			_, setE := key.Set(l, cols, k)
			if (e == api.OK) != want || e != setE || want && !slices.Equal(got, k) || !want && (len(got) != 0 || e != api.ErrForm) || key.Refers(l, cols, k) != want {
				t.Fatalf("Of(%+v, %v) = %+v, %d; Set: %d", l, cols, got, e, setE)
			}
		}
	}
}

// validColumns are all valid columns of a row of n values.
func validColumns(n int) [][]int {
	return slices.DeleteFunc(lists(n, rising(n)), func(cols []int) bool { return !distinct(cols, n) })
}

// numbered is a list of n numbers from one on.
func numbered(from int64, n int) []api.Value {
	l := make([]api.Value, n)
	for i := range l {
		l[i] = number(from + int64(i))
	}
	return l
}

// P6.3: the key of the result of Set is the given values; all other columns are unchanged; setting a row to its own key gives the row.
func TestSetAndGet(t *testing.T) {
	for n := range 6 {
		for _, cols := range validColumns(n) {
			for _, l := range [][]api.Value{numbered(1, n), make([]api.Value, n)} {
				for _, vals := range [][]api.Value{numbered(100, len(cols)), make([]api.Value, len(cols)), numbered(1, len(cols))} {
					checkSetAndGet(t, l, cols, vals)
				}
			}
		}
	}
	for _, l := range lists(3, seen) {
		for _, cols := range validColumns(len(l)) {
			if len(cols) == 1 {
				checkSetAndGet(t, l, cols, list(text("b")))
			}
			if own := mustOf(l, cols); !slices.Equal(mustSet(l, cols, own), l) {
				t.Fatalf("Set(%+v, %v, %+v) is another row", l, cols, own)
			}
		}
	}
}

func checkSetAndGet(t *testing.T, l []api.Value, cols []int, vals []api.Value) {
	t.Helper()
	set := mustSet(l, cols, vals)
	if len(set) != len(l) || !slices.Equal(mustOf(set, cols), vals) {
		t.Fatalf("Of(Set(%+v, %v, %+v)) is not what was set: %+v", l, cols, vals, set)
	}
	for c := range l {
		if !slices.Contains(cols, c) && set[c] != l[c] {
			t.Fatalf("Set(%+v, %v, %+v) changes column %d: %+v", l, cols, vals, c, set)
		}
	}
	if !slices.Equal(mustSet(l, cols, mustOf(l, cols)), l) || !slices.Equal(mustSet(set, cols, mustOf(l, cols)), l) {
		t.Fatalf("a row that is set to its own key at %v is not the row", cols)
	}
	if key.Refers(set, cols, vals) != key.Whole(vals) {
		t.Fatalf("Refers(%+v, %v, %+v) = %v", set, cols, vals, !key.Whole(vals))
	}
}

// P6.4: Same is symmetric; a key with a NULL is the same as none, not even as itself; complete keys are the same exactly if their texts are.
func TestSameness(t *testing.T) {
	keys := lists(3, seen)
	for _, a := range keys {
		if key.Whole(a) != (len(a) > 0 && !slices.Contains(a, null)) {
			t.Fatalf("Whole(%+v) = %v", a, key.Whole(a))
		}
		if key.Same(a, a) != key.Whole(a) || key.Same(a, slices.Clone(a)) != key.Whole(a) {
			t.Fatalf("Same(%+v, itself) = %v", a, key.Same(a, a))
		}
		if key.Text(a) != row.Text(a) || key.Text(a) == "" {
			t.Fatalf("Text(%+v) = %q", a, key.Text(a))
		}
		for _, b := range keys {
			same := key.Same(a, b)
			if same != key.Same(b, a) || same && !(key.Whole(a) && key.Whole(b)) {
				t.Fatalf("Same(%+v, %+v) = %v, the other way %v", a, b, same, key.Same(b, a))
			}
			if key.Whole(a) && key.Whole(b) && same != (key.Text(a) == key.Text(b)) {
				t.Fatalf("Same(%+v, %+v) = %v", a, b, same)
			}
		}
	}
}

// P6.4: Same is transitive.
func TestSamenessIsTransitive(t *testing.T) {
	keys := append(lists(2, seen), list(number(1)), list(number(1), text("a")), list(null), list(number(1), null), list(text("a")))
	for _, a := range keys {
		for _, b := range keys {
			if !key.Same(a, b) {
				continue
			}
			for _, c := range keys {
				if key.Same(b, c) != key.Same(a, c) {
					t.Fatalf("%+v, %+v, %+v: the same, and not", a, b, c)
				}
			}
		}
	}
}

// P6.4: texts with what parts and encloses values in them make no two keys the same.
func TestSamenessOfTexts(t *testing.T) {
	parts := list(text("'"), text(", "), text("', '"), text("'',"), text("a"), text(""), text("null"), text("1"))
	found := map[string][]api.Value{}
	for _, k := range lists(3, parts)[1:] {
		s := key.Text(k)
		if other, is := found[s]; is {
			t.Fatalf("%+v and %+v have one text", k, other)
		}
		found[s] = k
		joined := list(text(strings.TrimSuffix(strings.TrimPrefix(s, "('"), "')")))
		if len(k) > 1 && key.Same(k, joined) {
			t.Fatalf("Same(%+v, %+v)", k, joined)
		}
	}
}

// permuted are elements in the order that an order names.
func permuted[T any](l []T, order []int) []T {
	result := make([]T, len(order))
	for i, at := range order {
		result[i] = l[at]
	}
	return result
}

// orders are all orders of n elements.
func orders(n int) [][]int {
	return slices.DeleteFunc(validColumns(n), func(order []int) bool { return len(order) != n })
}

// P6.5: with the columns permuted the key is permuted; and so it is with what is set and what is referred to.
func TestPermutedColumns(t *testing.T) {
	l := list(number(7), text("x"), truth(1), span(1, 4), number(8))
	for _, cols := range validColumns(len(l)) {
		k := mustOf(l, cols)
		vals := numbered(100, len(cols))
		for _, order := range orders(len(cols)) {
			other := permuted(cols, order)
			if got := mustOf(l, other); !slices.Equal(got, permuted(k, order)) {
				t.Fatalf("Of at %v is %+v, at %v %+v", cols, k, other, got)
			}
			if !slices.Equal(mustSet(l, other, permuted(vals, order)), mustSet(l, cols, vals)) {
				t.Fatalf("Set at %v is not Set at %v", other, cols)
			}
			if !key.Refers(l, other, permuted(k, order)) || key.Refers(l, other, k) != slices.Equal(other, cols) {
				t.Fatalf("Refers at %v to the key at %v", other, cols)
			}
		}
	}
}

// P6.5: Set in two steps, for some of the columns and then for the others, is Set at once, wherever they are parted.
func TestSetInTwoSteps(t *testing.T) {
	for n := range 6 {
		l := numbered(1, n)
		for _, cols := range validColumns(n) {
			vals := numbered(100, len(cols))
			vals[len(vals)/2] = null
			once := mustSet(l, cols, vals)
			for taken := range 1 << len(cols) {
				checkTwoSteps(t, l, cols, vals, once, taken)
			}
		}
	}
}

// checkTwoSteps sets the columns of which taken has a bit, and the others, either ones first.
func checkTwoSteps(t *testing.T, l []api.Value, cols []int, vals, once []api.Value, taken int) {
	t.Helper()
	var parts [2]struct {
		cols []int
		vals []api.Value
	}
	for i, c := range cols {
		part := &parts[taken>>i&1]
		part.cols = append(part.cols, c)
		part.vals = append(part.vals, vals[i])
	}
	if len(parts[0].cols) == 0 || len(parts[1].cols) == 0 {
		return
	}
	for first := range parts {
		half := mustSet(l, parts[first].cols, parts[first].vals)
		if whole := mustSet(half, parts[1-first].cols, parts[1-first].vals); !slices.Equal(whole, once) {
			t.Fatalf("Set(%+v) at %v, then at %v, is %+v, at once %+v", l, parts[first].cols, parts[1-first].cols, whole, once)
		}
	}
}
