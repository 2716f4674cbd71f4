// Package wheels adds what is rung on wheels that carry, and tells what they can show if carries slip. It is specified in shared/doc/01-wheels.md.
package wheels

import (
	"cmp"
	"slices"

	"nosale/api"
	"nosale/checks"
	"nosale/histories"
	"nosale/lines"
)

// CheckBook returns the first bell of a book.
func CheckBook(b api.WheelsBook) api.Bell {
	if b.Most < 0 || b.Most > api.MaxWheelsMost {
		return api.Bound
	}
	if s := checkWheels(b.Wheels); s != api.Fine {
		return s
	}
	if s := checkStart(b); s != api.Fine {
		return s
	}
	return checkRings(b)
}

// Range returns the product of all bases.
func Range(b api.WheelsBook) (int, api.Bell) {
	c, s := open(b)
	return c.size, s
}

// Amount returns the amount of digits.
func Amount(b api.WheelsBook, digits []int) (int, api.Bell) {
	c, s := open(b)
	if s != api.Fine {
		return 0, s
	}
	if s := checkDigits(c.Wheels, 0, digits); s != api.Fine {
		return 0, s
	}
	return c.amount(rowOf(digits)), api.Fine
}

// Digits returns the digits with an amount.
func Digits(b api.WheelsBook, amount int) ([]int, api.Bell) {
	c, s := open(b)
	if s != api.Fine {
		return nil, s
	}
	if amount < 0 || amount >= c.size {
		return nil, api.Bound
	}
	return c.list(c.digits(amount)), api.Fine
}

// Ring returns the digits after keys are rung on digits without a slip, and the wheels that carry.
func Ring(b api.WheelsBook, digits, keys []int) (after, carries []int, s api.Bell) {
	c, s := open(b)
	if s != api.Fine {
		return nil, nil, s
	}
	if s := checkDigits(c.Wheels, 0, digits, keys); s != api.Fine {
		return nil, nil, s
	}
	shown, carries, s := c.ring(rowOf(digits), rowOf(keys), nil)
	return c.list(shown), carries, s
}

// Slide returns the digits after keys are rung on digits, with the carries of some wheels slipped.
func Slide(b api.WheelsBook, digits, keys, slips []int) ([]int, api.Bell) {
	c, s := open(b)
	if s != api.Fine {
		return nil, s
	}
	if s := checkDigits(c.Wheels, 0, digits, keys); s != api.Fine {
		return nil, s
	}
	if s := checks.Rising(slips, len(c.Wheels)); s != api.Fine {
		return nil, s
	}
	shown, _, s := c.ring(rowOf(digits), rowOf(keys), slips)
	if s != api.Fine {
		return nil, s
	}
	return c.list(shown), api.Fine
}

// Sum returns what all keys of a book amount to, together.
func Sum(b api.WheelsBook) (int, api.Bell) {
	c, s := open(b)
	if s != api.Fine {
		return 0, s
	}
	return c.sum(), api.Fine
}

// Histories returns how many histories a book has.
func Histories(b api.WheelsBook) (int, api.Bell) {
	c, s := open(b)
	if s != api.Fine {
		return 0, s
	}
	return histories.Count(c.histories()), api.Fine
}

// Shows returns the amounts that the wheels show behind so many rings in histories.
func Shows(b api.WheelsBook, rings int) ([]int, api.Bell) {
	c, s := open(b)
	if s != api.Fine {
		return nil, s
	}
	if rings < 0 || rings > len(c.Rings) {
		return nil, api.Bound
	}
	return histories.Numbers(c.histories(), func(h history) int { return c.amount(h.shown[rings]) })
}

// Slipped returns whether the carry of a wheel slipped in a ring.
func Slipped(b api.WheelsBook, ring, wheel int) (api.Sure, api.Bell) {
	c, s := open(b)
	if s != api.Fine {
		return 0, s
	}
	if ring < 0 || ring >= len(c.Rings) || wheel < 0 || wheel >= len(c.Wheels) {
		return 0, api.Missing
	}
	slip := api.WheelsSlip{Ring: ring, Wheel: wheel}
	return histories.Sure(c.histories(), func(h history) bool { return slices.Contains(h.slips[:h.many], slip) })
}

// Errors returns the errors of histories.
func Errors(b api.WheelsBook) ([]int, api.Bell) {
	c, s := open(b)
	if s != api.Fine {
		return nil, s
	}
	return histories.Numbers(c.histories(), c.wrong)
}

// Fewest returns the slips of a history with the fewest ones.
func Fewest(b api.WheelsBook) ([]api.WheelsSlip, api.Bell) {
	c, s := open(b)
	if s != api.Fine {
		return nil, s
	}
	slips, found := fewest(c.slipLists(), compareSlips)
	if !found {
		return nil, api.Odds
	}
	return slips, api.Fine
}

// Clash returns the fewest rings whose looks contradict each other, if there is no history.
func Clash(b api.WheelsBook) ([]int, api.Bell) {
	c, s := open(b)
	if s != api.Fine {
		return nil, s
	}
	rings, _ := fewest(c.contradictions(), cmp.Compare[int])
	return rings, api.Fine
}

// Look returns the ring behind which all wheels are to be read so that the fewest histories are left in the worst case, and how many those are; -1 if no ring leaves fewer.
func Look(b api.WheelsBook) (ring, left int, s api.Bell) {
	c, s := open(b)
	if s != api.Fine {
		return 0, 0, s
	}
	ring, left = c.bestLook()
	if left == 0 {
		return 0, 0, api.Odds
	}
	return ring, left, api.Fine
}

// Read returns the book in which digits were read behind a ring.
func Read(b api.WheelsBook, ring int, digits []int) (api.WheelsBook, api.Bell) {
	c, s := open(b)
	if s != api.Fine {
		return api.WheelsBook{}, s
	}
	if ring < 0 || ring >= len(c.Rings) {
		return api.WheelsBook{}, api.Missing
	}
	if s := checkDigits(c.Wheels, unread, digits); s != api.Fine {
		return api.WheelsBook{}, s
	}
	if c.lookedAt(ring) {
		return api.WheelsBook{}, api.Twice
	}
	next := copyBook(b)
	next.Rings[ring].Read = slices.Clone(digits)
	return ifPossible(next)
}

// Tight returns the book in which a wheel is of the kind WheelsTight.
func Tight(b api.WheelsBook, wheel int) (api.WheelsBook, api.Bell) {
	c, s := open(b)
	if s != api.Fine {
		return api.WheelsBook{}, s
	}
	if wheel < 0 || wheel >= len(c.Wheels) {
		return api.WheelsBook{}, api.Missing
	}
	next := copyBook(b)
	next.Wheels[wheel].Kind = api.WheelsTight
	return ifPossible(next)
}

// Next returns the amounts that the wheels can show if keys are rung behind all rings.
func Next(b api.WheelsBook, keys []int) ([]int, api.Bell) {
	c, s := open(b)
	if s != api.Fine {
		return nil, s
	}
	if s := checkDigits(c.Wheels, 0, keys); s != api.Fine {
		return nil, s
	}
	last := len(c.Rings) + 1
	next := c.with(api.WheelsRing{Keys: keys})
	return histories.Numbers(next.histories(), func(h history) int { return next.amount(h.shown[last]) })
}

// Print returns the text of a book.
func Print(b api.WheelsBook) (string, api.Bell) {
	c, s := open(b)
	if s != api.Fine {
		return "", s
	}
	return lines.Write(c.written()), api.Fine
}

// Parse reads the text of a book; the line is that of the first one that is wrong.
func Parse(text string) (b api.WheelsBook, line int, s api.Bell) {
	if len(text) > api.MaxText {
		return api.WheelsBook{}, 0, api.Count
	}
	b, line, s = readBook(text)
	if s != api.Fine {
		return api.WheelsBook{}, line, s
	}
	if s := CheckBook(b); s != api.Fine {
		return api.WheelsBook{}, 0, s
	}
	return b, 0, api.Fine
}
