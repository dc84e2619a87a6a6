package modes_test

import (
	"slices"
	"testing"

	"covenant/modes"
)

// coveredBy is the set of the modes that a set covers.
func (c class) coveredBy(held uint16) uint16 {
	return set(slices.DeleteFunc(c.modes(), func(m uint8) bool { return !modes.Covers(c.is, held, m) })...)
}

// goingWith is the set of the modes that are compatible with a set.
func (c class) goingWith(held uint16) uint16 {
	return set(slices.DeleteFunc(c.modes(), func(m uint8) bool { return !modes.Go(c.is, held, m) })...)
}

// P13.2: a mode is compatible with another one if that one is compatible with it.
func TestSymmetry(t *testing.T) {
	going := []int{}
	for _, c := range classes {
		n := 0
		for _, mode := range c.modes() {
			for _, other := range c.modes() {
				one, turned := modes.Go(c.is, modes.With(0, mode), other), modes.Go(c.is, modes.With(0, other), mode)
				if one != turned {
					t.Errorf("class %d: %d and %d: %v, %v", c.is, mode, other, one, turned)
				}
				if one {
					n++
				}
			}
		}
		going = append(going, n)
	}
	// As many as the table leaves: of 64 pairs of Tables it names 38, of 4 of Others 3.
	if !slices.Equal(going, []int{26, 1}) {
		t.Error("pairs that are compatible:", going)
	}
}

// P13.3: with one mode more no more is compatible, and no less is covered.
func TestOneModeMore(t *testing.T) {
	for _, c := range classes {
		for _, held := range c.sets() {
			for more := range uint8(17) {
				after := modes.With(held, more)
				if gained := c.goingWith(after) &^ c.goingWith(held); gained != 0 {
					t.Errorf("class %d: %b with %d: %b goes, too", c.is, held, more, gained)
				}
				if lost := c.coveredBy(held) &^ c.coveredBy(after); lost != 0 {
					t.Errorf("class %d: %b with %d: %b is not covered any more", c.is, held, more, lost)
				}
			}
		}
	}
}

// P13.3: with any modes more no more is compatible, and no less is covered.
func TestMoreIsHeld(t *testing.T) {
	for _, c := range classes {
		for _, held := range c.sets() {
			going, covered := c.goingWith(held), c.coveredBy(held)
			for _, more := range c.sets() {
				after := held | more
				for _, mode := range c.modes() {
					if modes.Go(c.is, after, mode) && going&power(mode) == 0 {
						t.Errorf("class %d: %d goes with %b, not with %b", c.is, mode, after, held)
					}
					if covered&power(mode) != 0 && !modes.Covers(c.is, after, mode) {
						t.Errorf("class %d: %b covers %d, %b does not", c.is, held, mode, after)
					}
				}
			}
		}
	}
}

// P13.3: a mode more does take something, and give something: it is not that nothing ever changes.
func TestOneModeMoreCounts(t *testing.T) {
	for _, c := range classes {
		for _, mode := range c.modes() {
			if c.goingWith(modes.With(0, mode)) == c.goingWith(0) || c.coveredBy(modes.With(0, mode)) == c.coveredBy(0) {
				t.Errorf("class %d: %d changes nothing", c.is, mode)
			}
		}
	}
}

// P13.4: a mode that is held is covered.
func TestHeldIsCovered(t *testing.T) {
	for _, c := range classes {
		for _, held := range c.sets() {
			if missing := held &^ c.coveredBy(held); missing != 0 {
				t.Errorf("class %d: %b does not cover its own %b", c.is, held, missing)
			}
		}
	}
}

// P13.4: what is covered by modes that are covered is covered.
func TestCoveredByCovered(t *testing.T) {
	for _, c := range classes {
		for _, held := range c.sets() {
			covered := c.coveredBy(held)
			for _, between := range c.sets() {
				if between&^covered != 0 {
					continue
				}
				if beyond := c.coveredBy(between) &^ covered; beyond != 0 {
					t.Errorf("class %d: %b covers %b, which covers %b", c.is, held, between, beyond)
				}
			}
		}
	}
}

// P13.4: where a mode that is covered is incompatible, the set that covers it is incompatible with that, too.
func TestCoveredIsNoStronger(t *testing.T) {
	for _, c := range classes {
		for _, held := range c.sets() {
			for _, mode := range c.members(c.coveredBy(held)) {
				if allowed := c.goingWith(held) &^ c.goingWith(set(mode)); allowed != 0 {
					t.Errorf("class %d: %b covers %d, but goes with %b", c.is, held, mode, allowed)
				}
			}
		}
	}
}

// P13.4: whatever is not covered is incompatible with something with which the set goes.
func TestNotCoveredIsStronger(t *testing.T) {
	for _, c := range classes {
		for _, held := range c.sets() {
			for _, mode := range c.members(c.all() &^ c.coveredBy(held)) {
				if c.goingWith(held)&^c.goingWith(set(mode)) == 0 {
					t.Errorf("class %d: %b does not cover %d", c.is, held, mode)
				}
			}
		}
	}
}

// P13.5: with nothing held each mode is compatible, and none is covered; so it is where what is held is no mode of the class.
func TestNothingHeld(t *testing.T) {
	for _, c := range classes {
		for _, held := range append(c.stray(), 0) {
			for _, mode := range c.modes() {
				checkGo(t, c.is, held, mode, true)
				checkCovers(t, c.is, held, mode, false)
			}
		}
	}
}

// P13.6: the strongest mode of each class is compatible with none, and covers each.
func TestStrongest(t *testing.T) {
	for _, x := range []struct{ class, strongest uint8 }{{modes.Tables, 8}, {modes.Others, 2}} {
		held := modes.With(0, x.strongest)
		for mode := uint8(1); mode <= x.strongest; mode++ {
			checkGo(t, x.class, held, mode, false)
			checkGo(t, x.class, set(mode), x.strongest, false)
			checkCovers(t, x.class, held, mode, true)
			checkCovers(t, x.class, set(mode), x.strongest, mode == x.strongest)
		}
	}
}

// P13.6: with the strongest mode among others held, none is compatible, and each is covered.
func TestStrongestAmongOthers(t *testing.T) {
	for _, c := range classes {
		for _, held := range c.sets() {
			held = modes.With(held, c.last())
			if c.goingWith(held) != 0 || c.coveredBy(held) != c.all() {
				t.Errorf("class %d: %b goes with %b, covers %b", c.is, held, c.goingWith(held), c.coveredBy(held))
			}
		}
	}
}

// P13.6: mode 1 is covered by each mode, and so by each set that has one.
func TestWeakest(t *testing.T) {
	for _, c := range classes {
		for _, mode := range c.modes() {
			checkCovers(t, c.is, modes.With(0, mode), 1, true)
		}
		for _, held := range c.sets() {
			checkCovers(t, c.is, held, 1, held != 0)
		}
	}
}
