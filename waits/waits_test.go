package waits_test

import (
	"math"
	"slices"
	"testing"

	"covenant/waits"
)

const (
	least = math.MinInt
	most  = math.MaxInt
)

// of makes waits of numbers, two by two: who waits, and for whom.
func of(numbers ...int) [][2]int {
	var l [][2]int
	for i := 0; i < len(numbers); i += 2 {
		l = append(l, [2]int{numbers[i], numbers[i+1]})
	}
	return l
}

func list(numbers ...int) []int { return numbers }

func checkReach(t *testing.T, edges [][2]int, from int, want []int) {
	t.Helper()
	if got := waits.Reach(edges, from); !slices.Equal(got, want) {
		t.Errorf("Reach(%v, %d) = %v, not %v", edges, from, got, want)
	}
}

func checkCircle(t *testing.T, edges [][2]int, from int, want []int) {
	t.Helper()
	if got := waits.Circle(edges, from); !slices.Equal(got, want) {
		t.Errorf("Circle(%v, %d) = %v, not %v", edges, from, got, want)
	}
}

func checkAny(t *testing.T, edges [][2]int, want []int) {
	t.Helper()
	if got := waits.Any(edges); !slices.Equal(got, want) {
		t.Errorf("Any(%v) = %v, not %v", edges, got, want)
	}
}

func checkVictim(t *testing.T, l []int, want int) {
	t.Helper()
	if got := waits.Victim(l); got != want {
		t.Errorf("Victim(%v) = %d, not %d", l, got, want)
	}
}

// The chapter's examples.
func TestExamples(t *testing.T) {
	l := of(1, 2, 2, 3, 3, 1, 3, 4)
	checkCircle(t, l, 1, list(1, 2, 3))
	checkCircle(t, l, 4, nil)
	checkReach(t, l, 4, nil)
	checkReach(t, l, 1, list(1, 2, 3, 4))
	checkAny(t, l, list(1, 2, 3))
	checkCircle(t, of(5, 5), 5, list(5))
	checkVictim(t, list(2, 9, 4), 9)
}

// some are numbers of all sorts.
var some = list(0, 1, -1, 2, 7, -7, most, least, most-1, least+1)

// P15.1, P15.2: without waits nobody is waited for, nil or empty.
func TestNoWaits(t *testing.T) {
	for _, l := range [][][2]int{nil, {}, make([][2]int, 0, 9)} {
		for _, from := range some {
			checkReach(t, l, from, nil)
			checkCircle(t, l, from, nil)
		}
		checkAny(t, l, nil)
	}
}

// P15.1, P15.2: one wait, of any two numbers: one reaches the other, and that one nobody.
func TestOneWait(t *testing.T) {
	for _, one := range some {
		for _, other := range some {
			if one == other {
				continue
			}
			l := of(one, other)
			checkReach(t, l, one, list(other))
			checkReach(t, l, other, nil)
			for _, from := range some {
				checkCircle(t, l, from, nil)
			}
			checkAny(t, l, nil)
		}
	}
}

// P15.1, P15.2: one that waits for itself is a cycle, whatever its number.
func TestItself(t *testing.T) {
	for _, one := range some {
		l := of(one, one)
		for _, from := range some {
			var want []int
			if from == one {
				want = list(one)
			}
			checkReach(t, l, from, want)
			checkCircle(t, l, from, want)
		}
		checkAny(t, l, list(one))
	}
}

// P15.1, P15.2: a cycle of two, of any two numbers.
func TestCycleOfTwo(t *testing.T) {
	for _, one := range some {
		for _, other := range some {
			if one == other {
				continue
			}
			l, want := of(one, other, other, one), list(min(one, other), max(one, other))
			for _, from := range want {
				checkReach(t, l, from, want)
				checkCircle(t, l, from, want)
			}
			checkAny(t, l, want)
		}
	}
}

// all tells what is answered of one.
type all struct {
	from          int
	reach, circle []int
}

// checkAll checks what is answered of waits.
func checkAll(t *testing.T, edges [][2]int, any []int, each ...all) {
	t.Helper()
	for _, x := range each {
		checkReach(t, edges, x.from, x.reach)
		checkCircle(t, edges, x.from, x.circle)
	}
	checkAny(t, edges, any)
}

// P15.1, P15.2: waits that lead to no cycle.
func TestWithoutCycles(t *testing.T) {
	// One behind the other, in no order of their numbers.
	checkAll(t, of(4, 1, 1, 9, 9, -2), nil,
		all{4, list(-2, 1, 9), nil}, all{1, list(-2, 9), nil}, all{9, list(-2), nil}, all{-2, nil, nil})
	// One who waits for several.
	checkAll(t, of(5, 8, 5, -1, 5, 3, 5, 0), nil,
		all{5, list(-1, 0, 3, 8), nil}, all{8, nil, nil}, all{-1, nil, nil}, all{0, nil, nil})
	// One for whom several wait.
	checkAll(t, of(8, 5, -1, 5, 3, 5, 0, 5), nil,
		all{5, nil, nil}, all{8, list(5), nil}, all{-1, list(5), nil}, all{0, list(5), nil})
	// Two ways that come together: each is told once.
	checkAll(t, of(1, 2, 1, 3, 2, 4, 3, 4, 4, 5, 1, 5), nil,
		all{1, list(2, 3, 4, 5), nil}, all{2, list(4, 5), nil}, all{3, list(4, 5), nil}, all{4, list(5), nil}, all{5, nil, nil})
	// Two sets of waits that have nothing to do with each other.
	checkAll(t, of(1, 2, 3, 4), nil, all{1, list(2), nil}, all{3, list(4), nil}, all{2, nil, nil}, all{4, nil, nil})
}

// P15.1, P15.2: waits that lead to one cycle, or to several that are not connected.
func TestCycles(t *testing.T) {
	three := list(-3, 6, 40)
	checkAll(t, of(40, -3, -3, 6, 6, 40), three, all{40, three, three}, all{-3, three, three}, all{6, three, three}, all{0, nil, nil})
	// Turned about.
	checkAll(t, of(-3, 40, 6, -3, 40, 6), three, all{40, three, three}, all{-3, three, three}, all{6, three, three})
	// Two that share none.
	one, other := list(1, 8), list(2, 5, 9)
	checkAll(t, of(8, 1, 9, 2, 1, 8, 2, 5, 5, 9), list(1, 2, 5, 8, 9),
		all{1, one, one}, all{8, one, one}, all{2, other, other}, all{5, other, other}, all{9, other, other})
	// Two, one of which leads to the other one, but not back: who stands between them is on none.
	checkAll(t, of(8, 1, 1, 8, 8, 4, 4, 9, 9, 2, 2, 5, 5, 9), list(1, 2, 5, 8, 9),
		all{1, list(1, 2, 4, 5, 8, 9), one}, all{8, list(1, 2, 4, 5, 8, 9), one}, all{4, other, nil}, all{2, other, other}, all{9, other, other})
	// One of two, one of itself.
	checkAll(t, of(3, 3, 0, 7, 7, 0), list(0, 3, 7), all{3, list(3), list(3)}, all{0, list(0, 7), list(0, 7)}, all{7, list(0, 7), list(0, 7)})
}

// P15.1, P15.2: cycles that share members: a cycle may pass through one more than once.
func TestCyclesTogether(t *testing.T) {
	// Two that share one.
	five := list(1, 2, 3, 4, 5)
	checkAll(t, of(1, 2, 2, 3, 3, 1, 3, 4, 4, 5, 5, 3), five,
		all{1, five, five}, all{2, five, five}, all{3, five, five}, all{4, five, five}, all{5, five, five})
	// Two, the lesser of which is a wait for itself.
	two := list(1, 2)
	checkAll(t, of(1, 1, 1, 2, 2, 1), two, all{1, two, two}, all{2, two, two})
	// Three in a row, of which the outer ones share none.
	four := list(-1, 0, 1, 2)
	checkAll(t, of(-1, 0, 0, -1, 0, 1, 1, 0, 1, 2, 2, 1), four,
		all{-1, four, four}, all{0, four, four}, all{1, four, four}, all{2, four, four})
	// A short cut.
	three := list(1, 2, 3)
	checkAll(t, of(1, 2, 2, 3, 1, 3, 3, 1), three, all{1, three, three}, all{2, three, three}, all{3, three, three})
}

// P15.1, P15.2: one comes to a cycle, and one is come to from it, but neither is on it.
func TestBesideCycles(t *testing.T) {
	// 9 comes to it, by way of 4; 0 is come to, by way of 7.
	on := list(1, 2, 3)
	reached := list(0, 1, 2, 3, 7)
	checkAll(t, of(9, 4, 4, 2, 1, 2, 2, 3, 3, 1, 3, 7, 7, 0), on,
		all{9, list(0, 1, 2, 3, 4, 7), nil}, all{4, reached, nil}, all{7, list(0), nil}, all{0, nil, nil},
		all{1, reached, on}, all{2, reached, on}, all{3, reached, on})
	// To one that waits for itself, and from it.
	checkAll(t, of(1, 2, 2, 2, 2, 3), list(2), all{1, list(2, 3), nil}, all{2, list(2, 3), list(2)}, all{3, nil, nil})
	// Round a cycle, from one ahead of it to one behind it.
	checkAll(t, of(6, 1, 1, 2, 2, 1, 6, 8, 2, 8), list(1, 2), all{6, list(1, 2, 8), nil}, all{1, list(1, 2, 8), list(1, 2)}, all{8, nil, nil})
}

// P15.1: one that occurs in no wait waits for nobody.
func TestNoSuchOne(t *testing.T) {
	for _, l := range [][][2]int{of(1, 2), of(1, 1), of(1, 2, 2, 3, 3, 1)} {
		for _, from := range list(0, 4, -1, most, least) {
			checkReach(t, l, from, nil)
			checkCircle(t, l, from, nil)
		}
	}
}

// P15.1, P15.2: a wait that occurs twice, or more often, is as if it occurred once.
func TestTwice(t *testing.T) {
	checkAll(t, of(1, 2, 1, 2), nil, all{1, list(2), nil}, all{2, nil, nil})
	checkAll(t, of(1, 1, 1, 1, 1, 1), list(1), all{1, list(1), list(1)})
	checkAll(t, of(2, 1, 1, 2, 2, 1), list(1, 2), all{1, list(1, 2), list(1, 2)}, all{2, list(1, 2), list(1, 2)})
	checkAll(t, of(1, 2, 2, 3, 1, 2, 3, 1, 2, 3, 2, 3), list(1, 2, 3), all{1, list(1, 2, 3), list(1, 2, 3)}, all{3, list(1, 2, 3), list(1, 2, 3)})
}

// P15.1, P15.2: 0, negative ones, the least and the greatest int are numbers as all others.
func TestAnyNumbers(t *testing.T) {
	on := list(least, -1, 0, most)
	checkAll(t, of(0, least, least, most, most, -1, -1, 0, -1, least+1, most-1, 0), on,
		all{0, list(least, least+1, -1, 0, most), on}, all{least, list(least, least+1, -1, 0, most), on},
		all{most, list(least, least+1, -1, 0, most), on}, all{-1, list(least, least+1, -1, 0, most), on},
		all{most - 1, list(least, least+1, -1, 0, most), nil}, all{least + 1, nil, nil})
}

// P15.2: Victim is the greatest number, wherever it stands, and however often; 0 of an empty list.
func TestVictim(t *testing.T) {
	checkVictim(t, nil, 0)
	checkVictim(t, list(), 0)
	checkVictim(t, make([]int, 0, 3), 0)
	for _, one := range some {
		checkVictim(t, list(one), one)
		checkVictim(t, list(one, one, one), one)
	}
	for _, x := range []struct {
		l    []int
		want int
	}{
		{list(9, 2, 4), 9}, {list(2, 9, 4), 9}, {list(2, 4, 9), 9}, {list(9, 2, 9, 4, 9), 9}, {list(4, 9, 9, 2), 9}, {list(1, 2), 2}, {list(2, 1), 2},
		{list(-5, -2, -9), -2}, {list(-2, -5), -2}, {list(-5, -2), -2}, {list(-1, 0), 0}, {list(0, -1), 0}, {list(0, 0), 0}, {list(-1, 1, 0), 1},
		{list(least, least+1), least + 1}, {list(least, -1), -1}, {list(least, least), least}, {list(least, 0, most), most}, {list(most, least), most}, {list(most-1, most), most},
	} {
		checkVictim(t, x.l, x.want)
	}
}

// P15.2: Victim of each order of some numbers.
func TestVictimOfEachOrder(t *testing.T) {
	for _, x := range []struct {
		l    []int
		want int
	}{{list(-3, 0, 5, 6), 6}, {list(-3, -4, -5, -3), -3}, {list(least, -1, 0, most), most}, {list(2, 2, 1, 2), 2}} {
		orders(x.l, func(l []int) { checkVictim(t, l, x.want) })
	}
}

// orders calls f with each order of a list.
func orders[T any](l []T, f func(l []T)) {
	var from func(k int)
	from = func(k int) {
		if k == len(l) {
			f(l)
			return
		}
		for i := k; i < len(l); i++ {
			l[i], l[k] = l[k], l[i]
			from(k + 1)
			l[i], l[k] = l[k], l[i]
		}
	}
	l = slices.Clone(l)
	from(0)
}

// P15.1, P15.2: what is handed in stands as it was, also what lies behind its end.
func TestHandedInStands(t *testing.T) {
	behind := of(3, 1, 2, 2, 1, 2, 9, 3, 3, 4, 2, 3, 7, 8, 8, 7)
	was := slices.Clone(behind)
	l := behind[:6]
	for from := range 10 {
		waits.Reach(l, from)
		waits.Circle(l, from)
	}
	waits.Any(l)
	if !slices.Equal(behind, was) {
		t.Errorf("%v was %v", behind, was)
	}
	numbers := list(3, 9, -1, 9, 2, 7)
	if waits.Victim(numbers[:5]); !slices.Equal(numbers, list(3, 9, -1, 9, 2, 7)) {
		t.Error(numbers)
	}
}

// P15.1, P15.2: each answer is new memory: who writes into one, or adds to it, changes neither the waits nor another answer.
func TestAnswersAreNew(t *testing.T) {
	l := of(1, 2, 2, 3, 3, 1, 3, 4, 9, 1)
	was, on, reached := slices.Clone(l), list(1, 2, 3), list(1, 2, 3, 4)
	answers := [][]int{waits.Reach(l, 1), waits.Reach(l, 1), waits.Circle(l, 1), waits.Circle(l, 1), waits.Any(l), waits.Any(l)}
	for i, a := range answers {
		others := slices.Clone(answers)
		for k := range others {
			others[k] = slices.Clone(answers[k])
		}
		a = append(a, -8)[:cap(a)]
		for n := range a {
			a[n] = -7
		}
		for k, other := range answers {
			if k != i && !slices.Equal(other, others[k]) {
				t.Errorf("the answer %d changes with %d: %v", k, i, other)
			}
		}
	}
	if !slices.Equal(l, was) {
		t.Errorf("%v was %v", l, was)
	}
	checkAll(t, l, on, all{1, reached, on}, all{9, reached, nil})
}

// P15.1, P15.2: nothing is kept from call to call: the same waits, changed in between, are answered as they then are.
func TestNothingIsKept(t *testing.T) {
	l := of(1, 2, 2, 1)
	checkAll(t, l, list(1, 2), all{1, list(1, 2), list(1, 2)})
	l[1] = [2]int{2, 3}
	checkAll(t, l, nil, all{1, list(2, 3), nil})
	l[0] = [2]int{3, 2}
	checkAll(t, l, list(2, 3), all{1, nil, nil}, all{3, list(2, 3), list(2, 3)})
	checkAll(t, l[:1], nil, all{3, list(2), nil}, all{2, nil, nil})
}
