package modes_test

import (
	"slices"
	"testing"

	"covenant/modes"
)

// class is a class as the chapter's table has it: with what each of its modes, from 1 on, is incompatible.
type class struct {
	is      uint8
	against [][]uint8
}

// classes are those that there are.
var classes = []class{
	{modes.Tables, [][]uint8{
		{8},
		{7, 8},
		{5, 6, 7, 8},
		{4, 5, 6, 7, 8},
		{3, 4, 6, 7, 8},
		{3, 4, 5, 6, 7, 8},
		{2, 3, 4, 5, 6, 7, 8},
		{1, 2, 3, 4, 5, 6, 7, 8},
	}},
	{modes.Others, [][]uint8{
		{2},
		{1, 2},
	}},
}

// last is the class's last mode, which is its strongest one, too.
func (c class) last() uint8 { return uint8(len(c.against)) }

// modes are the class's, in order.
func (c class) modes() []uint8 {
	var all []uint8
	for mode := uint8(1); mode <= c.last(); mode++ {
		all = append(all, mode)
	}
	return all
}

// none are the edges of what is no mode of the class.
func (c class) none() []uint8 { return []uint8{0, c.last() + 1, 15, 16, 255} }

// apart reports whether the table has two modes as incompatible.
func (c class) apart(mode, other uint8) bool { return slices.Contains(c.against[mode-1], other) }

// members are the modes of a set, in order; other bits don't count.
func (c class) members(held uint16) []uint8 {
	var all []uint8
	for _, mode := range c.modes() {
		if held/power(mode)%2 == 1 {
			all = append(all, mode)
		}
	}
	return all
}

// clash reports whether a mode is incompatible with one of a set.
func (c class) clash(held uint16, mode uint8) bool {
	return slices.ContainsFunc(c.members(held), func(m uint8) bool { return c.apart(m, mode) })
}

// mayGo is Go of a mode of the class, as the words have it.
func (c class) mayGo(held uint16, asked uint8) bool { return !c.clash(held, asked) }

// covers is Covers of a mode of the class, as the words have it.
func (c class) covers(held uint16, asked uint8) bool {
	for _, other := range c.against[asked-1] {
		if !c.clash(held, other) {
			return false
		}
	}
	return true
}

// power is the number whose bit is that of a mode.
func power(mode uint8) uint16 {
	n := uint16(1)
	for range mode {
		n *= 2
	}
	return n
}

// set is the set of some modes.
func set(list ...uint8) uint16 {
	held := uint16(0)
	for _, mode := range list {
		held += power(mode)
	}
	return held
}

// all is the set of all modes of the class.
func (c class) all() uint16 { return set(c.modes()...) }

// sets are all sets of modes of the class.
func (c class) sets() []uint16 {
	var list []uint16
	for half := range uint16(1) << c.last() {
		list = append(list, 2*half)
	}
	return list
}

// stray are sets of bits none of which is a mode of the class: bit 0, the first one above its modes, bit 15, and all of these together.
func (c class) stray() []uint16 {
	above := c.last() + 1
	return []uint16{set(0), set(above), set(15), set(0, 15), set(0, above), set(above, 15), ^c.all()}
}

func checkGo(t *testing.T, c uint8, held uint16, asked uint8, want bool) {
	if modes.Go(c, held, asked) != want {
		t.Helper()
		t.Errorf("Go(%d, %b, %d) = %v", c, held, asked, !want)
	}
}

func checkCovers(t *testing.T, c uint8, held uint16, asked uint8, want bool) {
	if modes.Covers(c, held, asked) != want {
		t.Helper()
		t.Errorf("Covers(%d, %b, %d) = %v", c, held, asked, !want)
	}
}

func checkWith(t *testing.T, held uint16, asked uint8, want uint16) {
	if got := modes.With(held, asked); got != want {
		t.Helper()
		t.Errorf("With(%b, %d) = %b, not %b", held, asked, got, want)
	}
}

// The chapter's examples, one by one.
func TestExamples(t *testing.T) {
	checkGo(t, modes.Tables, set(1, 3), 3, true)
	checkGo(t, modes.Tables, set(3), 5, false)
	checkGo(t, modes.Others, set(1), 1, true)
	checkCovers(t, modes.Tables, set(6), 3, true)
	checkCovers(t, modes.Tables, set(3), 4, false)
	checkCovers(t, modes.Tables, set(4, 5), 6, true)
	checkWith(t, set(1), 3, 10)
}

// The classes are counted from 1 on, and are of one byte.
func TestClasses(t *testing.T) {
	var tables, others any = modes.Tables, modes.Others
	if tables != uint8(1) || others != uint8(2) {
		t.Error(tables, others)
	}
}

// P13.1: Tables has the modes 1 to 8, Others 1 and 2, and no other class has any.
func TestMay(t *testing.T) {
	for c := range 256 {
		for mode := range 256 {
			want := c == 1 && mode >= 1 && mode <= 8 || c == 2 && (mode == 1 || mode == 2)
			if modes.May(uint8(c), uint8(mode)) != want {
				t.Errorf("May(%d, %d) = %v", c, mode, !want)
			}
		}
	}
}

// P13.1: each mode of each class with each one, held and asked, both ways about, as the chapter's table has it.
func TestGoOfEachPair(t *testing.T) {
	for _, c := range classes {
		for _, mode := range c.modes() {
			for _, other := range c.modes() {
				apart := slices.Contains(c.against[mode-1], other)
				checkGo(t, c.is, set(mode), other, !apart)
				checkGo(t, c.is, set(other), mode, !apart)
			}
		}
	}
}

// P13.1: a mode goes with several exactly if it is compatible with each of them.
func TestGoOfSets(t *testing.T) {
	for _, x := range []struct {
		held  uint16
		asked uint8
		want  bool
	}{
		{set(1, 2, 3), 3, true}, {set(1, 2, 3), 4, true}, {set(1, 2, 3), 5, false}, {set(1, 2, 3), 1, true},
		{set(1, 2, 4), 4, false}, {set(1, 2, 4), 3, true}, {set(1, 5), 5, true}, {set(1, 5), 6, false},
		{set(3, 4), 1, true}, {set(3, 4), 2, true}, {set(3, 4), 3, true}, {set(3, 4), 4, false}, {set(3, 4), 5, false},
		{set(5, 3), 3, false}, {set(3, 5), 5, false}, {set(1, 7), 1, true}, {set(1, 7), 2, false}, {set(2, 7), 1, true},
		{set(1, 8), 1, false}, {set(8, 1), 2, false}, {set(2, 8), 1, false}, {set(1, 2, 3, 4, 5, 6, 7), 1, true},
		{set(1, 2, 3, 4, 5, 6), 2, true}, {set(1, 2, 3, 4, 5, 6, 7), 2, false}, {set(1, 2, 3, 4, 5, 6, 7, 8), 1, false},
	} {
		checkGo(t, modes.Tables, x.held, x.asked, x.want)
	}
	checkGo(t, modes.Others, set(1, 2), 1, false)
	checkGo(t, modes.Others, set(1, 2), 2, false)
}

// P13.1: a mode is covered by what is held, alone or by several together, and by nothing less.
func TestCoversOfSets(t *testing.T) {
	for _, x := range []struct {
		held  uint16
		asked uint8
		want  bool
	}{
		{set(3), 3, true}, {set(1, 4), 4, true}, {set(8), 8, true}, {set(2, 5, 7), 5, true}, // it is held
		{set(4, 5), 6, true}, {set(4), 6, false}, {set(5), 6, false}, // by both together, by neither alone
		{set(3, 5), 6, true}, {set(3), 6, false}, {set(3, 5), 4, true}, {set(3), 4, false}, {set(5), 4, false},
		{set(1, 2, 4, 5), 6, true}, {set(1, 2, 3, 4), 6, false},
		{set(4), 3, true}, {set(3), 2, true}, {set(5), 2, true}, {set(5), 3, false}, {set(4), 5, false}, {set(2), 3, false},
		{set(6), 3, true}, {set(6), 4, true}, {set(6), 5, true}, {set(6), 7, false}, {set(6), 8, false},
		{set(1), 2, false}, {set(1, 2), 3, false}, {set(1, 2, 3), 4, false}, {set(3, 4), 5, false}, {set(3, 4, 5), 7, false},
		{set(3, 4, 5, 6), 7, false}, {set(1, 2, 3, 4, 5, 6), 7, false}, {set(1, 2, 3, 4, 5, 6, 7), 8, false}, {set(7), 6, true},
	} {
		checkCovers(t, modes.Tables, x.held, x.asked, x.want)
	}
	for _, x := range []struct {
		held  uint16
		asked uint8
		want  bool
	}{{set(1), 1, true}, {set(1), 2, false}, {set(2), 1, true}, {set(2), 2, true}, {set(1, 2), 1, true}, {set(1, 2), 2, true}} {
		checkCovers(t, modes.Others, x.held, x.asked, x.want)
	}
}

// P13.1: there are modes that several cover together, but none of them alone.
func TestCoversTogether(t *testing.T) {
	together := 0
	for _, c := range classes {
		for _, held := range c.sets() {
			for _, asked := range c.modes() {
				alone := func(m uint8) bool { return modes.Covers(c.is, set(m), asked) }
				if modes.Covers(c.is, held, asked) && !slices.ContainsFunc(c.members(held), alone) {
					together++
					checkCovers(t, c.is, held, asked, c.covers(held, asked))
				}
			}
		}
	}
	if together == 0 {
		t.Error("none is covered by several together alone")
	}
}

// P13.1: each set of any bits, with each mode, as the words have it; bits that are no modes of the class are ignored.
func TestEachSet(t *testing.T) {
	for _, c := range classes {
		for _, asked := range c.modes() {
			for n := range 1 << 16 {
				held := uint16(n)
				checkGo(t, c.is, held, asked, c.mayGo(held, asked))
				checkCovers(t, c.is, held, asked, c.covers(held, asked))
			}
		}
	}
}

// P13.1: bit 0, bits above the class's last mode, and bit 15 change no answer of Go and Covers.
func TestStrayBits(t *testing.T) {
	for _, c := range classes {
		for _, stray := range c.stray() {
			for _, asked := range c.modes() {
				checkGo(t, c.is, stray, asked, true)
				checkCovers(t, c.is, stray, asked, false)
				for _, held := range c.sets() {
					checkGo(t, c.is, held|stray, asked, c.mayGo(held, asked))
					checkCovers(t, c.is, held|stray, asked, c.covers(held, asked))
				}
			}
		}
	}
	// What would be the strongest mode of Tables is nothing to Others.
	checkGo(t, modes.Others, set(8), 1, true)
	checkGo(t, modes.Others, set(8), 2, true)
	checkGo(t, modes.Others, set(3, 4, 5, 6, 7, 8), 2, true)
	checkCovers(t, modes.Others, set(8), 1, false)
	checkCovers(t, modes.Others, set(3, 4, 5, 6, 7, 8), 2, false)
}

// P13.1: what is no mode of its class neither goes with anything nor is covered, whatever is held: nothing, all, or its own bit.
func TestNoMode(t *testing.T) {
	for _, c := range classes {
		for _, asked := range c.none() {
			for n := range 1 << 16 {
				checkGo(t, c.is, uint16(n), asked, false)
				checkCovers(t, c.is, uint16(n), asked, false)
			}
		}
		for asked := range 256 {
			if asked >= 1 && asked <= int(c.last()) {
				continue
			}
			for _, held := range []uint16{0, set(1), c.all(), 1<<16 - 1, 1 << (asked % 16)} {
				checkGo(t, c.is, held, uint8(asked), false)
				checkCovers(t, c.is, held, uint8(asked), false)
			}
		}
	}
}

// P13.1: a class that there is not has no modes.
func TestNoClass(t *testing.T) {
	for c := range 256 {
		if c == int(modes.Tables) || c == int(modes.Others) {
			continue
		}
		for asked := range 256 {
			for _, held := range []uint16{0, set(0), set(1), set(2), set(8), set(15), 1<<16 - 1, 1 << (asked % 16)} {
				checkGo(t, uint8(c), held, uint8(asked), false)
				checkCovers(t, uint8(c), held, uint8(asked), false)
			}
		}
	}
	for _, c := range []uint8{0, 3, 255} {
		for asked := range uint8(17) {
			for n := range 1 << 16 {
				checkGo(t, c, uint16(n), asked, false)
				checkCovers(t, c, uint16(n), asked, false)
			}
		}
	}
}

// P13.1: With adds a mode, from 0 to 15, and leaves every other bit as it is, whether or not it is a mode of any class.
func TestWith(t *testing.T) {
	for mode := range uint8(16) {
		checkWith(t, 0, mode, set(mode))
		checkWith(t, set(mode), mode, set(mode))
		checkWith(t, 1<<16-1, mode, 1<<16-1)
		for n := range 1 << 16 {
			held, want := uint16(n), uint16(n)
			if held/power(mode)%2 == 0 {
				want += power(mode)
			}
			checkWith(t, held, mode, want)
		}
	}
}

// P13.1: with a mode above 15 a set is unchanged.
func TestWithAbove(t *testing.T) {
	for mode := 16; mode <= 255; mode++ {
		for bit := range uint8(16) {
			checkWith(t, set(bit), uint8(mode), set(bit))
			checkWith(t, ^set(bit), uint8(mode), ^set(bit))
		}
		checkWith(t, 0, uint8(mode), 0)
		checkWith(t, 1<<16-1, uint8(mode), 1<<16-1)
	}
	for n := range 1 << 16 {
		for _, mode := range []uint8{16, 17, 24, 31, 32, 33, 64, 128, 255} {
			checkWith(t, uint16(n), mode, uint16(n))
		}
	}
}

// P13.1: what With makes of modes that are held is what Go and Covers are given.
func TestWithModeByMode(t *testing.T) {
	for _, c := range classes {
		held := uint16(0)
		for _, mode := range c.modes() {
			held = modes.With(held, mode)
			checkWith(t, held, mode, held)
			checkCovers(t, c.is, held, mode, true)
		}
		if held != c.all() {
			t.Errorf("class %d: all of its modes are %b", c.is, held)
		}
	}
}
