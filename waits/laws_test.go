package waits_test

import (
	"math/rand/v2"
	"slices"
	"testing"

	"covenant/waits"
)

// words are waits as the chapter's words have them: for each two of some numbers, whether the one waits for the other, or for one who does, and so on.
type words struct {
	who   []int // in increasing order, each once
	leads [][]bool
}

// wordsOf are the words of waits among some numbers.
func wordsOf(edges [][2]int, who []int) words {
	w := words{who: who}
	for _, a := range who {
		var row []bool
		for _, b := range who {
			row = append(row, slices.Contains(edges, [2]int{a, b}))
		}
		w.leads = append(w.leads, row)
	}
	for by := range who {
		for a := range who {
			for b := range who {
				w.leads[a][b] = w.leads[a][b] || w.leads[a][by] && w.leads[by][b]
			}
		}
	}
	return w
}

// pick are the numbers of which something is true.
func (w words) pick(is func(b int) bool) []int {
	var l []int
	for b, who := range w.who {
		if is(b) {
			l = append(l, who)
		}
	}
	return l
}

func (w words) reach(a int) []int { return w.pick(func(b int) bool { return w.leads[a][b] }) }
func (w words) circle(a int) []int {
	return w.pick(func(b int) bool { return w.leads[a][b] && w.leads[b][a] })
}
func (w words) any() []int { return w.pick(func(b int) bool { return w.leads[b][b] }) }

// check checks waits among these numbers.
func (w words) check(t *testing.T, edges [][2]int) {
	t.Helper()
	for a, from := range w.who {
		checkReach(t, edges, from, w.reach(a))
		checkCircle(t, edges, from, w.circle(a))
	}
	checkAny(t, edges, w.any())
}

// pairs are all waits that may be among some numbers.
func pairs(who []int) [][2]int {
	var l [][2]int
	for _, a := range who {
		for _, b := range who {
			l = append(l, [2]int{a, b})
		}
	}
	return l
}

// everySet calls f with each set of some waits.
func everySet(l [][2]int, f func(edges [][2]int)) {
	var edges [][2]int
	for set := range 1 << len(l) {
		edges = edges[:0]
		for i, e := range l {
			if set&(1<<i) != 0 {
				edges = append(edges, e)
			}
		}
		f(edges)
	}
}

// small are the numbers among which all sets of waits are tried out.
var small = list(-1, 0, 1)

// several are more numbers, among which some sets are.
var several = list(least, -40, -2, -1, 0, 1, 2, 5, 17, most)

// someSets calls f with many sets of waits among the first few numbers, up to all of them, of few waits and of many.
func someSets(seed uint64, f func(edges [][2]int, who []int)) {
	random := rand.New(rand.NewPCG(15, seed))
	for k := range 4000 {
		who := several[:1+k%len(several)]
		f(randomWaits(random, who, random.IntN(2*len(who)+2)), who)
	}
}

// randomWaits are so many waits among some numbers, some of them more than once.
func randomWaits(random *rand.Rand, who []int, n int) [][2]int {
	var edges [][2]int
	for range n {
		edges = append(edges, [2]int{who[random.IntN(len(who))], who[random.IntN(len(who))]})
	}
	return edges
}

// manySets calls f with each set of waits among three numbers, and many among more.
func manySets(seed uint64, f func(edges [][2]int, who []int)) {
	everySet(pairs(small), func(edges [][2]int) { f(edges, small) })
	someSets(seed, f)
}

// P15.1, P15.2: each set of waits among up to four numbers is answered as the words have it.
func TestEachSet(t *testing.T) {
	for _, who := range [][]int{{7}, {-2, 3}, small, {least, 0, 4, most}} {
		everySet(pairs(who), func(edges [][2]int) { wordsOf(edges, who).check(t, edges) })
	}
}

// P15.1, P15.2: many sets of waits among more numbers are answered as the words have it.
func TestManySets(t *testing.T) {
	someSets(12, func(edges [][2]int, who []int) { wordsOf(edges, who).check(t, edges) })
}

// checkIncreasing checks that a list is in increasing order, each one once.
func checkIncreasing(t *testing.T, l []int) {
	t.Helper()
	for i := 1; i < len(l); i++ {
		if l[i-1] >= l[i] {
			t.Errorf("%v", l)
		}
	}
}

// P15.1, P15.2: answers are in increasing order, each one once; Any are those with a cycle, each of whom reaches itself.
func TestIncreasing(t *testing.T) {
	manySets(1, func(edges [][2]int, who []int) {
		on := waits.Any(edges)
		checkIncreasing(t, on)
		for _, one := range who {
			reach, circle := waits.Reach(edges, one), waits.Circle(edges, one)
			checkIncreasing(t, reach)
			checkIncreasing(t, circle)
			is := slices.Contains(on, one)
			if slices.Contains(reach, one) != is || slices.Contains(circle, one) != is || len(circle) > 0 != is {
				t.Errorf("%v: Any: %v, Reach(%d): %v, Circle: %v", edges, on, one, reach, circle)
			}
		}
	})
}

// P15.3: who is on a cycle with another one has that one on it, too: the sets of both are the same.
func TestSymmetry(t *testing.T) {
	together := 0
	manySets(3, func(edges [][2]int, who []int) {
		for _, one := range who {
			circle := waits.Circle(edges, one)
			for _, other := range who {
				turned := waits.Circle(edges, other)
				is := slices.Contains(circle, other)
				if slices.Contains(turned, one) != is || is && !slices.Equal(circle, turned) {
					t.Errorf("%v: Circle(%d) is %v, Circle(%d) is %v", edges, one, circle, other, turned)
				}
				if is && one != other {
					together++
				}
			}
		}
	})
	if together < 5000 {
		t.Error("together:", together)
	}
}

// P15.4: who is on a cycle waits for somebody on it, and somebody on it waits for that one.
func TestStillWaiting(t *testing.T) {
	members := 0
	manySets(4, func(edges [][2]int, who []int) {
		for _, one := range who {
			circle := waits.Circle(edges, one)
			var waiting, awaited []int
			for _, e := range edges {
				if slices.Contains(circle, e[0]) && slices.Contains(circle, e[1]) {
					waiting, awaited = append(waiting, e[0]), append(awaited, e[1])
				}
			}
			for _, member := range circle {
				members++
				if !slices.Contains(waiting, member) || !slices.Contains(awaited, member) {
					t.Errorf("%v: Circle(%d) is %v: %d waits for none of it, or none for it", edges, one, circle, member)
				}
			}
		}
	})
	if members < 5000 {
		t.Error("members:", members)
	}
}

// without are waits without those of one.
func without(edges [][2]int, one int) [][2]int {
	return slices.DeleteFunc(slices.Clone(edges), func(e [2]int) bool { return e[0] == one })
}

// P15.5: without the waits of one, none of the cycles through it is left, and those of others that were on none with it stand as they were.
func TestOneLess(t *testing.T) {
	ended := 0
	manySets(5, func(edges [][2]int, who []int) {
		for _, one := range who {
			rest := without(edges, one)
			was, on := waits.Circle(edges, one), waits.Any(rest)
			if c := waits.Circle(rest, one); len(c) > 0 || slices.Contains(on, one) {
				t.Errorf("%v, without the waits of %d: %v, Any: %v", edges, one, c, on)
			}
			if len(was) > 0 {
				ended++
			}
			for _, other := range who {
				c := waits.Circle(rest, other)
				if slices.Contains(c, one) || !within(c, waits.Circle(edges, other)) {
					t.Errorf("%v, without the waits of %d: Circle(%d): %v", edges, one, other, c)
				}
				if !slices.Contains(was, other) && !slices.Equal(c, waits.Circle(edges, other)) {
					t.Errorf("%v, without the waits of %d: Circle(%d): %v: it was on no cycle with it", edges, one, other, c)
				}
			}
		}
	})
	if ended < 5000 {
		t.Error("ended:", ended)
	}
}

// within reports whether all of a list are in another one.
func within(l, other []int) bool {
	return !slices.ContainsFunc(l, func(n int) bool { return !slices.Contains(other, n) })
}

// P15.5: with one wait more, at any place, no cycle disappears: nobody that was on one, alone or with others, is not on it any more.
func TestOneMore(t *testing.T) {
	grown := 0
	check := func(edges, more [][2]int, who []int) {
		for _, one := range who {
			was, is := waits.Circle(edges, one), waits.Circle(more, one)
			if !within(was, is) || !within(waits.Reach(edges, one), waits.Reach(more, one)) {
				t.Errorf("%v: Circle(%d) is %v, with %v: %v", edges, one, was, more, is)
			}
			if len(is) > len(was) {
				grown++
			}
		}
		if was, is := waits.Any(edges), waits.Any(more); !within(was, is) {
			t.Errorf("%v: Any is %v, with %v: %v", edges, was, more, is)
		}
	}
	everySet(pairs(small), func(edges [][2]int) {
		for _, e := range pairs(small) {
			check(edges, append(slices.Clone(edges), e), small)
			check(edges, append([][2]int{e}, edges...), small)
		}
	})
	random := rand.New(rand.NewPCG(15, 5))
	someSets(55, func(edges [][2]int, who []int) {
		at := random.IntN(len(edges) + 1)
		check(edges, slices.Insert(slices.Clone(edges), at, randomWaits(random, who, 1+random.IntN(3))...), who)
	})
	if grown < 3000 {
		t.Error("grown:", grown)
	}
}

// upwards are all waits of each of some numbers for the greater ones.
func upwards(who []int) [][2]int {
	return slices.DeleteFunc(pairs(who), func(e [2]int) bool { return e[0] >= e[1] })
}

// checkNone checks that there is no cycle, and that all who are reached are on that side.
func checkNone(t *testing.T, edges [][2]int, who []int, right func(from, to int) bool) {
	t.Helper()
	checkAny(t, edges, nil)
	for _, from := range who {
		checkCircle(t, edges, from, nil)
		for _, to := range waits.Reach(edges, from) {
			if !right(from, to) {
				t.Errorf("%v: %d reaches %d", edges, from, to)
			}
		}
	}
}

// P15.6: where each waits only for greater numbers there is no cycle; nor where each waits only for lesser ones.
func TestNone(t *testing.T) {
	greater := func(from, to int) bool { return to > from }
	lesser := func(from, to int) bool { return to < from }
	for _, who := range [][]int{small, {-9, -1, 0, 1, 4}, {least, least + 1, 0, most - 1, most}} {
		everySet(upwards(who), func(edges [][2]int) {
			checkNone(t, edges, who, greater)
			turned := slices.Clone(edges)
			for i, e := range turned {
				turned[i] = [2]int{e[1], e[0]}
			}
			checkNone(t, turned, who, lesser)
		})
	}
	checkNone(t, upwards(several), several, greater)
}

// P15.6: one wait that is not for a greater number makes a cycle exactly if who is waited for reaches who waits, or is the same.
func TestOneBack(t *testing.T) {
	who := list(least, -1, 0, 3)
	made := 0
	everySet(upwards(who), func(edges [][2]int) {
		for _, back := range pairs(who) {
			if back[0] < back[1] {
				continue
			}
			makes := back[0] == back[1] || slices.Contains(waits.Reach(edges, back[1]), back[0])
			if is := len(waits.Any(append(slices.Clone(edges), back))) > 0; is != makes {
				t.Errorf("%v with %v: a cycle: %v", edges, back, is)
			}
			if makes {
				made++
			}
		}
	})
	if made < 300 {
		t.Error("made:", made)
	}
}

// checkSame checks that waits are answered as others are.
func checkSame(t *testing.T, edges, others [][2]int, who []int) {
	t.Helper()
	for _, from := range who {
		checkReach(t, edges, from, waits.Reach(others, from))
		checkCircle(t, edges, from, waits.Circle(others, from))
	}
	checkAny(t, edges, waits.Any(others))
}

// P15.7: in whatever order waits are given, the results are the same: each order of each set of up to five waits among three numbers.
func TestEachOrder(t *testing.T) {
	everySet(pairs(small), func(edges [][2]int) {
		if len(edges) <= 5 {
			orders(edges, func(l [][2]int) { checkSame(t, l, edges, small) })
		}
	})
}

// P15.7: in whatever order waits are given, and however often, the results are the same.
func TestAnyOrder(t *testing.T) {
	random := rand.New(rand.NewPCG(15, 7))
	manySets(7, func(edges [][2]int, who []int) {
		for range 3 {
			l := slices.Clone(edges)
			for range random.IntN(2*len(edges) + 1) {
				l = append(l, edges[random.IntN(len(edges))])
			}
			random.Shuffle(len(l), func(i, k int) { l[i], l[k] = l[k], l[i] })
			checkSame(t, l, edges, who)
		}
	})
}

// P15.7: the same waits, again and again, are answered the same.
func TestAgain(t *testing.T) {
	random := rand.New(rand.NewPCG(15, 77))
	edges := randomWaits(random, several, 14)
	want := wordsOf(edges, several)
	for range 200 {
		want.check(t, edges)
	}
}

// long is how many wait where very many do.
const long = 200000

// checkLong checks an answer that is too long to be told.
func checkLong(t *testing.T, what string, got, want []int) {
	t.Helper()
	if !slices.Equal(got, want) {
		t.Errorf("%s: %d are answered, not %d", what, len(got), len(want))
	}
}

// counting are so many numbers, from one on.
func counting(from, n int) []int {
	var l []int
	for i := range n {
		l = append(l, from+i)
	}
	return l
}

// chainOf is of very many, each of whom waits for the next one.
func chainOf() [][2]int {
	var l [][2]int
	for i := range long - 1 {
		l = append(l, [2]int{i, i + 1})
	}
	return l
}

// P15.1, P15.2: very many who wait one for the other, in several orders: without a cycle, and with one.
func TestLong(t *testing.T) {
	every := counting(0, long)
	check := func(what string, chain [][2]int) {
		checkLong(t, what, waits.Reach(chain, 0), every[1:])
		checkLong(t, what, waits.Circle(chain, 0), nil)
		checkLong(t, what, waits.Any(chain), nil)
		cycle := append(slices.Clone(chain), [2]int{long - 1, 0})
		checkLong(t, what+", closed", waits.Reach(cycle, long/2), every)
		checkLong(t, what+", closed", waits.Circle(cycle, long/2), every)
		checkLong(t, what+", closed", waits.Any(cycle), every)
	}
	chain := chainOf()
	check("chain", chain)
	slices.Reverse(chain)
	check("turned", chain)
	rand.New(rand.NewPCG(15, 2)).Shuffle(len(chain), func(i, k int) { chain[i], chain[k] = chain[k], chain[i] })
	check("shuffled", chain)
}

// P15.1, P15.2: very many cycles one behind the other, each of two.
func TestManyCycles(t *testing.T) {
	chain := chainOf()
	for i := 0; i < long; i += 2 {
		chain = append(chain, [2]int{i + 1, i})
	}
	every := counting(0, long)
	checkLong(t, "cycles", waits.Any(chain), every)
	checkLong(t, "cycles", waits.Reach(chain, 0), every)
	checkLong(t, "cycles", waits.Circle(chain, long/2), list(long/2, long/2+1))
	checkLong(t, "cycles", waits.Circle(chain, long-1), list(long-2, long-1))
}

// P15.1, P15.2: one who waits for very many, one for whom very many wait, and one for whom both is so.
func TestWide(t *testing.T) {
	var out, in [][2]int
	for _, n := range counting(1, long) {
		out, in = append(out, [2]int{0, n}), append(in, [2]int{n, 0})
	}
	checkLong(t, "one for many", waits.Reach(out, 0), counting(1, long))
	checkLong(t, "many for one", waits.Reach(in, long), list(0))
	for _, l := range [][][2]int{out, in} {
		checkLong(t, "wide", waits.Circle(l, 0), nil)
		checkLong(t, "wide", waits.Any(l), nil)
	}
	both := append(out, in...)
	checkLong(t, "both", waits.Circle(both, 0), counting(0, long+1))
	checkLong(t, "both", waits.Circle(both, long), counting(0, long+1))
	checkLong(t, "both", waits.Any(both), counting(0, long+1))
}
