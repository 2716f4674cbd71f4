package wheels

import (
	"cmp"
	"iter"
	"slices"

	"nosale/api"
	"nosale/histories"
)

// checked is a book without a bell.
type checked struct {
	api.WheelsBook
	machine
}

// open returns a book that is checked, or its bell.
func open(b api.WheelsBook) (checked, api.Bell) {
	if s := CheckBook(b); s != api.Fine {
		return checked{}, s
	}
	return newChecked(b), api.Fine
}

func newChecked(b api.WheelsBook) checked {
	return checked{b, newMachine(b.Wheels)}
}

// copyBook returns a book that shares no memory with b.
func copyBook(b api.WheelsBook) api.WheelsBook {
	b.Wheels = slices.Clone(b.Wheels)
	b.Start = slices.Clone(b.Start)
	b.Rings = slices.Clone(b.Rings)
	for i, r := range b.Rings {
		b.Rings[i] = api.WheelsRing{Keys: slices.Clone(r.Keys), Read: slices.Clone(r.Read)}
	}
	return b
}

// with returns the book with one more ring, even if it has as many as there can be.
func (c checked) with(r api.WheelsRing) checked {
	b := copyBook(c.WheelsBook)
	b.Rings = append(b.Rings, r)
	return newChecked(b)
}

// unlooked returns the book as if nobody had looked.
func (c checked) unlooked() checked {
	b := copyBook(c.WheelsBook)
	for i := range b.Rings {
		b.Rings[i].Read = nil
	}
	return newChecked(b)
}

// lookedAt tells whether somebody looked behind a ring.
func (c checked) lookedAt(ring int) bool { return len(c.Rings[ring].Read) > 0 }

// sum returns what all keys amount to.
func (c checked) sum() int {
	sum := 0
	for _, r := range c.Rings {
		sum += c.amount(rowOf(r.Keys))
	}
	return sum
}

// history is what the wheels show at first, and behind each ring, and the carries that slip. There is room for a ring more than a book can have, because Next rings once more.
type history struct {
	shown [api.MaxWheelsRings + 2]row
	slips [api.MaxWheelsMost]api.WheelsSlip
	many  int
}

// histories yields all histories of the book.
func (c checked) histories() iter.Seq[history] {
	return func(yield func(history) bool) {
		var h history
		// fill goes on with a wheel behind so many rings that is moved by a carry, and tells whether more is wanted.
		var fill func(rings, wheel, carry int) bool
		fill = func(rings, wheel, carry int) bool {
			if rings > len(c.Rings) {
				return yield(h)
			}
			if wheel == len(c.Wheels) {
				if rings > 0 && !c.agrees(h.shown[rings], rings-1) {
					return true
				}
				return fill(rings+1, 0, 0)
			}
			if rings == 0 {
				for _, d := range c.firsts(wheel) {
					h.shown[0][wheel] = d
					if !fill(0, wheel+1, 0) {
						return false
					}
				}
				return true
			}
			shown, carried := c.move(wheel, h.shown[rings-1][wheel], c.Rings[rings-1].Keys[wheel]+carry)
			h.shown[rings][wheel] = shown
			if !carried {
				return fill(rings, wheel+1, 0)
			}
			if !fill(rings, wheel+1, 1) {
				return false
			}
			by, can := c.slip(wheel)
			if !can || h.many == c.Most {
				return true
			}
			h.slips[h.many] = api.WheelsSlip{Ring: rings - 1, Wheel: wheel}
			h.many++
			more := fill(rings, wheel+1, by)
			h.many--
			return more
		}
		fill(0, 0, 0)
	}
}

// firsts returns the numbers that a wheel can have shown at first.
func (c checked) firsts(wheel int) []int {
	if c.Start[wheel] != unread {
		return []int{c.Start[wheel]}
	}
	var all []int
	for d := range c.Wheels[wheel].Base {
		all = append(all, d)
	}
	return all
}

// agrees tells whether what is shown behind a ring is what was read there.
func (c checked) agrees(shown row, ring int) bool {
	if !c.lookedAt(ring) {
		return true
	}
	read := rowOf(c.Rings[ring].Read)
	for w := range len(c.Wheels) {
		if read[w] == unread {
			shown[w] = unread
		}
	}
	return shown == read
}

// ifPossible returns a book if it has a history.
func ifPossible(b api.WheelsBook) (api.WheelsBook, api.Bell) {
	return histories.IfAny(b, api.Fine, newChecked(b).histories)
}

// wrong returns the error of a history.
func (c checked) wrong(h history) int {
	shown := c.amount(h.shown[len(c.Rings)]) - c.amount(h.shown[0])
	e := (shown - c.sum()) % c.size
	if e < 0 {
		e += c.size
	}
	if 2*e > c.size {
		e -= c.size
	}
	return e
}

// slipLists yields the slips of each history.
func (c checked) slipLists() iter.Seq[[]api.WheelsSlip] {
	return func(yield func([]api.WheelsSlip) bool) {
		for h := range c.histories() {
			if !yield(h.slips[:h.many]) {
				return
			}
		}
	}
}

// compareSlips compares two slips by ring, then by wheel.
func compareSlips(a, b api.WheelsSlip) int {
	return cmp.Or(cmp.Compare(a.Ring, b.Ring), cmp.Compare(a.Wheel, b.Wheel))
}

// fewest returns the list with the fewest elements, and of several ones the least; found is false if there is no list.
func fewest[E any](lists iter.Seq[[]E], compare func(a, b E) int) (best []E, found bool) {
	for list := range lists {
		if !found || len(list) < len(best) || len(list) == len(best) && slices.CompareFunc(list, best, compare) < 0 {
			best, found = slices.Clone(list), true
		}
	}
	return best, found
}
