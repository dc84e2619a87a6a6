package snap_test

import (
	"math"
	"slices"
	"testing"

	"covenant/api"
	"covenant/snap"
	"covenant/xid"
)

// words is what has become of transactions, as the chapter's words have it: the parent of each, which of them don't count, and which ones became visible by each commit of a top one.
type words struct {
	parents []int
	gone    []bool
	effects [][]int
}

// has reports whether there is a transaction.
func (w *words) has(id int) bool { return id >= 1 && id <= len(w.parents) }

// within reports whether a transaction is another one, or below it.
func (w *words) within(id, upper int) bool {
	for id != 0 && id != upper {
		id = w.parents[id-1]
	}
	return id == upper
}

// counting is which transactions count, of one and those below it.
func (w *words) counting(upper int) []int {
	var ids []int
	for i, gone := range w.gone {
		if !gone && w.within(i+1, upper) {
			ids = append(ids, i+1)
		}
	}
	return ids
}

// do is told of a step that was not refused.
func (w *words) do(s step) {
	switch {
	case s.do == 'b':
		w.parents, w.gone = append(w.parents, s.id), append(w.gone, false)
	case s.do == 'a':
		for _, id := range w.counting(s.id) {
			w.gone[id-1] = true
		}
	case w.parents[s.id-1] == 0:
		w.effects = append(w.effects, w.counting(s.id))
	}
}

// own reports whether a transaction is the viewer's own.
func (w *words) own(v snap.Viewer, id int) bool {
	return w.has(id) && w.has(v.Me) && w.parents[v.Me-1] == 0 && slices.Contains(w.counting(v.Me), id)
}

// number is that of the commit by which a transaction became visible to those who see it, or 0.
func (w *words) number(id int) int {
	return 1 + slices.IndexFunc(w.effects, func(ids []int) bool { return slices.Contains(ids, id) })
}

// mark is what a viewer is to answer about a transaction.
func (w *words) mark(v snap.Viewer, id int) byte {
	n := w.number(id)
	switch {
	case w.own(v, id):
		return 'o'
	case n == 0:
		return '-'
	case n <= v.At:
		return 's'
	}
	return 'l'
}

func (w *words) copy() *words {
	return &words{slices.Clone(w.parents), slices.Clone(w.gone), slices.Clone(w.effects)}
}

// change is a step that was done: how the table was, how it is, and what the words are then.
type change struct {
	step
	was, is *xid.Table
	words   *words
}

// changes calls f with each step of each row of so many steps.
func changes(length int, f func(c change)) {
	var from func(x *xid.Table, w *words, left int)
	from = func(x *xid.Table, w *words, left int) {
		if left == 0 {
			return
		}
		for id := range x.Len() + 1 {
			for _, s := range []step{{'b', id}, {'c', id}, {'a', id}} {
				y := x.Copy()
				if do(y, s) != api.OK {
					continue
				}
				v := w.copy()
				v.do(s)
				f(change{s, x, y, v})
				from(y, v, left-1)
			}
		}
	}
	from(xid.New(), &words{}, length)
}

// random is a row of numbers that always is the same.
type random uint64

// below is a number from 0 on, less than n.
func (r *random) below(n int) int {
	*r = *r*6364136223846793005 + 1442695040888963407
	return int(uint64(*r) >> 33 % uint64(n))
}

// longRows calls f with each step of some long rows of steps, in which the ones most likely to be Running are the last ones.
func longRows(f func(c change)) {
	for seed := range 30 {
		r := random(seed)
		x, w := xid.New(), &words{}
		for range 50 {
			s := step{"bbbca"[r.below(5)], x.Len() + 1 - r.below(min(x.Len()+2, 3+seed))}
			was := x.Copy()
			if do(x, s) != api.OK {
				continue
			}
			w.do(s)
			f(change{s, was, x, w})
		}
	}
}

// everyChange calls f with the steps of short rows, all that there are, and of long ones.
func everyChange(f func(c change)) {
	changes(6, f)
	longRows(f)
}

// viewers calls f with the viewers that there may be behind a step.
func (c change) viewers(f func(v snap.Viewer)) {
	for me := -1; me <= c.is.Len()+1; me++ {
		for _, at := range numbers(c.is.Last()) {
			f(snap.Viewer{At: at, Me: me})
		}
	}
}

// seen is which transactions a viewer sees.
func seen(v snap.Viewer, x *xid.Table) []int {
	var ids []int
	for id := 1; id <= x.Len(); id++ {
		if v.Sees(x, id) {
			ids = append(ids, id)
		}
	}
	return ids
}

// without is a list less what stands in another one.
func without(ids, others []int) []int {
	var left []int
	for _, id := range ids {
		if !slices.Contains(others, id) {
			left = append(left, id)
		}
	}
	return left
}

// P10.1: after each step of each row, each viewer answers as the chapter's words have it; and the current viewer sees all that is committed.
func TestWords(t *testing.T) {
	done := 0
	everyChange(func(c change) {
		done++
		c.viewers(func(v snap.Viewer) {
			for id := -1; id <= c.is.Len()+1; id++ {
				if got, want := mark(v, c.is, id), c.words.mark(v, id); got != want {
					t.Fatalf("%v, parents %v: %d: %c, want %c", v, c.words.parents, id, got, want)
				}
			}
		})
		if v := snap.Now(c.is, c.id); v.At != len(c.words.effects) || v.Me != c.id {
			t.Fatalf("Now of %d = %v", c.id, v)
		}
	})
	if done < 5000 {
		t.Error("steps:", done)
	}
}

// P10.2: behind each step a snapshot without a transaction of its own sees what it saw ahead of it, and nothing else.
func TestStability(t *testing.T) {
	everyChange(func(c change) {
		for at := range c.was.Last() + 1 {
			v := snap.Viewer{At: at}
			if was, is := seen(v, c.was), seen(v, c.is); !slices.Equal(was, is) {
				t.Fatalf("%c%d: %v: %v, %v", c.do, c.id, v, was, is)
			}
		}
	})
}

// P10.2: snapshots that are taken behind each step of a row, from its start on, see the same behind each later step.
func TestSnapshotsOfRows(t *testing.T) {
	type kept struct {
		snap.Viewer
		seen []int
	}
	var all []kept
	asked := 0
	longRows(func(c change) {
		asked += len(all)
		if c.was.Len() == 0 {
			all = []kept{{snap.Now(c.was, 0), nil}}
		}
		for _, k := range all {
			if is := seen(k.Viewer, c.is); !slices.Equal(k.seen, is) {
				t.Fatalf("%c%d: %v: %v, %v", c.do, c.id, k.Viewer, k.seen, is)
			}
		}
		v := snap.Now(c.is, 0)
		all = append(all, kept{v, seen(v, c.is)})
	})
	if asked < 5000 {
		t.Error("snapshots that were asked again:", asked)
	}
}

// P10.3: with a greater At all that was visible still is; with one commit more its effects are, too, and nothing else.
func TestMore(t *testing.T) {
	everyChange(func(c change) {
		for me := -1; me <= c.is.Len()+1; me++ {
			ats := append(numbers(c.is.Last()), c.is.Last()+3)
			slices.Sort(ats)
			for i, at := range ats[1:] {
				less, more := snap.Viewer{At: ats[i], Me: me}, snap.Viewer{At: at, Me: me}
				fewer, visible := seen(less, c.is), seen(more, c.is)
				if lost := without(fewer, visible); len(lost) > 0 {
					t.Fatalf("%v, %v: %v", less, more, lost)
				}
				var effects []int
				if at >= 1 && at <= c.is.Last() {
					effects = c.words.effects[at-1]
				}
				own := slices.DeleteFunc(slices.Clone(effects), func(id int) bool { return !less.Own(c.is, id) })
				if added := without(visible, fewer); !slices.Equal(added, without(effects, own)) {
					t.Fatalf("%v, %v: %v, effects %v", less, more, added, effects)
				}
			}
		}
	})
}

// P10.3: the step that commits a top one makes its effects visible to the current viewer, and nothing else; no other step makes anything visible to one without a transaction of its own.
func TestOneCommit(t *testing.T) {
	commits := 0
	everyChange(func(c change) {
		was, is := seen(snap.Now(c.was, 0), c.was), seen(snap.Now(c.is, 0), c.is)
		var effects []int
		if c.do == 'c' && c.words.parents[c.id-1] == 0 {
			commits++
			effects = c.words.counting(c.id)
		}
		if lost := without(was, is); len(lost) > 0 || !slices.Equal(without(is, was), effects) {
			t.Fatalf("%c%d: %v, %v, effects %v", c.do, c.id, was, is, effects)
		}
		for _, id := range effects {
			if old := snap.Now(c.was, 0); !old.Later(c.is, id) || old.Later(c.was, id) || !snap.Now(c.is, 0).Sees(c.is, id) {
				t.Fatalf("%c%d: %d", c.do, c.id, id)
			}
		}
	})
	if commits < 500 {
		t.Error("commits:", commits)
	}
}

// P10.4: each of the viewer's own is visible, at any At, and stays its own until it, or one above it, is aborted; those of another Me are not its own.
func TestOwn(t *testing.T) {
	aborts := 0
	everyChange(func(c change) {
		c.viewers(func(v snap.Viewer) {
			for id := 1; id <= c.is.Len(); id++ {
				is := v.Own(c.is, id)
				if is && !v.Sees(c.is, id) {
					t.Fatalf("%v: its own %d is not visible", v, id)
				}
				if is && c.is.Top(id) != v.Me {
					t.Fatalf("%v: %d is that of %d", v, id, c.is.Top(id))
				}
				aborted := c.do == 'a' && c.words.within(id, c.id)
				if v.Own(c.was, id) && is == aborted {
					t.Fatalf("%c%d: %v: %d", c.do, c.id, v, id)
				}
				if aborted && v.Own(c.was, id) {
					aborts++
				}
			}
		})
	})
	if aborts < 500 {
		t.Error("aborts:", aborts)
	}
}

// P10.4: what begins below one that is the viewer's own is so, too; a top one that begins is that of the viewer whose Me it is alone.
func TestOwnFromBegin(t *testing.T) {
	everyChange(func(c change) {
		if c.do != 'b' {
			return
		}
		id := c.is.Len()
		c.viewers(func(v snap.Viewer) {
			want := v.Me == id
			if c.id != 0 {
				want = v.Own(c.is, c.id)
			}
			if v.Own(c.is, id) != want || v.Sees(c.is, id) != want || v.Later(c.is, id) {
				t.Fatalf("%c%d: %v: %c", c.do, c.id, v, mark(v, c.is, id))
			}
		})
	})
}

// P10.5: what counts, of a top one that is committed, is visible or later, and not both; what is neither, and not the viewer's own, no viewer without a transaction of its own sees, until it is committed.
func TestOneOfThree(t *testing.T) {
	hidden := 0
	everyChange(func(c change) {
		c.viewers(func(v snap.Viewer) {
			for id := 1; id <= c.is.Len(); id++ {
				sees, later := v.Sees(c.is, id), v.Later(c.is, id)
				if c.words.number(id) != 0 {
					if sees == later {
						t.Fatalf("%v: %d: %v, %v", v, id, sees, later)
					}
					continue
				}
				if later || sees != v.Own(c.is, id) {
					t.Fatalf("%v: %d, which has not committed: %v, %v", v, id, sees, later)
				}
				if sees {
					continue
				}
				hidden++
				for _, at := range []int{math.MinInt, 0, 1, c.is.Last(), c.is.Last() + 1, math.MaxInt} {
					if (snap.Viewer{At: at}).Sees(c.is, id) || (snap.Viewer{At: at}).Later(c.is, id) {
						t.Fatalf("%d is visible at %d", id, at)
					}
				}
			}
		})
	})
	if hidden < 500 {
		t.Error("hidden:", hidden)
	}
}
