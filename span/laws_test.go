package span_test

import (
	"math/rand/v2"
	"slices"
	"testing"

	"covenant/api"
	"covenant/span"
)

// from and to are the numbers between which all is tried.
const from, to = -2, 5

// everySpan are all spans between these.
func everySpan() []api.Value {
	var l []api.Value
	for n := int64(from); n < to; n++ {
		for hi := n + 1; hi <= to; hi++ {
			l = append(l, of(n, hi))
		}
	}
	return l
}

// randomList is of so many spans between from and to.
func randomList(random *rand.Rand, n int) []api.Value {
	every := everySpan()
	var l []api.Value
	for range n {
		l = append(l, every[random.IntN(len(every))])
	}
	return l
}

// P4.3: two meet exactly if they have something in common, whichever is first, and its numbers are those in both.
func TestSymmetry(t *testing.T) {
	for _, a := range everySpan() {
		checkCommon(t, a, a, a, true)
		for _, b := range everySpan() {
			both, is := span.Common(a, b)
			if other, turned := span.Common(b, a); other != both || turned != is || span.Meets(a, b) != is || span.May(both) != is {
				t.Errorf("Common(%+v, %+v) = %+v, %v; turned %+v, %v", a, b, both, is, other, turned)
			}
			for n := int64(from - 1); n <= to; n++ {
				if span.Has(both, n) != (span.Has(a, n) && span.Has(b, n)) {
					t.Errorf("Common(%+v, %+v) = %+v, %d is in it: %v", a, b, both, n, span.Has(both, n))
				}
			}
		}
	}
}

// P4.4: of two that do not meet one is after the other.
func TestOneAfterTheOther(t *testing.T) {
	for _, a := range append(everySpan(), valid...) {
		for _, b := range append(everySpan(), valid...) {
			if apart := a.Hi <= b.N || b.Hi <= a.N; span.Meets(a, b) == apart {
				t.Errorf("Meets(%+v, %+v) = %v", a, b, !apart)
			}
		}
	}
}

// checkGaps holds the gaps against what they are promised to be, number by number.
func checkGaps(t *testing.T, within api.Value, l []api.Value) {
	t.Helper()
	gaps, e := span.Free(within, l)
	if e != api.OK {
		t.Fatalf("Free(%+v, %+v): %d", within, l, e)
	}
	in := func(l []api.Value, n int64) bool {
		return slices.ContainsFunc(l, func(v api.Value) bool { return span.Has(v, n) })
	}
	for i, gap := range gaps {
		if !span.May(gap) || i > 0 && gaps[i-1].Hi >= gap.N {
			t.Errorf("Free(%+v, %+v) = %+v", within, l, gaps)
		}
		for _, other := range l {
			if span.Meets(gap, other) {
				t.Errorf("Free(%+v, %+v) = %+v, of which one meets %+v", within, l, gaps, other)
			}
		}
	}
	for n := int64(from - 1); n <= to; n++ {
		if in(gaps, n) != (span.Has(within, n) && !in(l, n)) {
			t.Errorf("Free(%+v, %+v) = %+v, %d is in it: %v", within, l, gaps, n, in(gaps, n))
		}
	}
}

// P4.5: a number is in a gap exactly if it is in the span, and in none of the others.
func TestGaps(t *testing.T) {
	random := rand.New(rand.NewPCG(4, 5))
	for _, within := range everySpan() {
		checkGaps(t, within, nil)
		for _, a := range everySpan() {
			checkGaps(t, within, []api.Value{a})
			for _, b := range everySpan() {
				checkGaps(t, within, []api.Value{a, b})
			}
		}
		for range 500 {
			checkGaps(t, within, randomList(random, 3+random.IntN(5)))
		}
	}
}

// P4.6: up to the second one of the first two that meet no two of a list meet, and it meets none before the first one.
func TestFirstOfMany(t *testing.T) {
	random := rand.New(rand.NewPCG(4, 6))
	for range 5000 {
		l := randomList(random, random.IntN(8))
		first, second, is := slow(l)
		checkFirst(t, l, first, second, is)
		checkFirst(t, l[:second], 0, 0, false)
	}
}

// slow is First, pair by pair.
func slow(l []api.Value) (int, int, bool) {
	for second, b := range l {
		for first, a := range l[:second] {
			if span.Meets(a, b) {
				return first, second, true
			}
		}
	}
	return 0, 0, false
}

// P4.2: long lists, too.
func TestLongLists(t *testing.T) {
	const long = 20000
	var l, gaps []api.Value
	for n := int64(0); n < long; n++ {
		l = append(l, of(3*n, 3*n+2))
		gaps = append(gaps, of(3*n+2, 3*n+3))
	}
	rand.New(rand.NewPCG(4, 2)).Shuffle(long, func(i, k int) { l[i], l[k] = l[k], l[i] })
	checkFree(t, of(0, 3*long), l, gaps)
	if _, _, is := span.First(l); is {
		t.Error("two meet")
	}
	l[long-1] = of(l[long/2].N+1, l[long/2].N+2)
	if first, second, is := span.First(l); first != long/2 || second != long-1 || !is {
		t.Errorf("First is %d, %d, %v", first, second, is)
	}
}
