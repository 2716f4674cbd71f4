package wheels

import (
	"slices"

	"nosale/api"
)

// row is digits of a machine; behind its highest wheel it has zeros.
type row [api.MaxWheelsWide]int

// rowOf returns the row of digits that were checked.
func rowOf(digits []int) row {
	var r row
	copy(r[:], digits)
	return r
}

// kind is a kind of wheels: its word, and what a carry becomes if it slips, if it can.
type kind struct {
	word string
	slip func(carry int) (moves int, can bool)
}

// kinds returns all kinds of wheels.
func kinds() [3]kind {
	return [3]kind{
		api.WheelsTight:   {"tight", func(carry int) (int, bool) { return carry, false }},
		api.WheelsDrops:   {"drops", func(carry int) (int, bool) { return 0, true }},
		api.WheelsDoubles: {"doubles", func(carry int) (int, bool) { return 2 * carry, true }},
	}
}

// machine is wheels, with the unit of each, and their range.
type machine struct {
	wheels []api.WheelsWheel
	units  row
	size   int
	kinds  [3]kind
}

func newMachine(wheels []api.WheelsWheel) machine {
	m := machine{wheels: wheels, size: 1, kinds: kinds()}
	for w := range len(wheels) {
		m.units[w] = m.size
		m.size *= wheels[w].Base
	}
	return m
}

// list returns digits as a list that has one for each wheel.
func (m machine) list(digits row) []int { return slices.Clone(digits[:len(m.wheels)]) }

// amount returns the amount of digits.
func (m machine) amount(digits row) int {
	sum := 0
	for w := range len(m.wheels) {
		sum += digits[w] * m.units[w]
	}
	return sum
}

// digits returns the digits with an amount.
func (m machine) digits(amount int) row {
	var r row
	for w := range len(m.wheels) {
		r[w] = amount / m.units[w] % m.wheels[w].Base
	}
	return r
}

// move returns what a wheel shows once it is moved, and whether it carries.
func (m machine) move(wheel, shown, by int) (int, bool) {
	base := m.wheels[wheel].Base
	return (shown + by) % base, shown+by >= base
}

// slip returns by what the carry of a wheel moves the next one if it slips, and whether it can.
func (m machine) slip(wheel int) (int, bool) {
	by, can := m.kinds[m.wheels[wheel].Kind].slip(1)
	return by, can && wheel < len(m.wheels)-1
}

// ring rings keys on digits, with the carries of some wheels slipped, and returns what is shown then, and the wheels that carry.
func (m machine) ring(digits, keys row, slips []int) (after row, carries []int, s api.Bell) {
	by := 0
wheels:
	for w := range len(m.wheels) {
		shown, carried := m.move(w, digits[w], keys[w]+by)
		slipped := slices.Contains(slips, w)
		moves, can := m.slip(w)
		after[w], by = shown, 0
		switch {
		case slipped && !(carried && can):
			s = api.Odds
			break wheels
		case slipped:
			by = moves
		case carried:
			by = 1
		}
		if carried {
			carries = append(carries, w)
		}
	}
	if s != api.Fine {
		return row{}, nil, s
	}
	return after, carries, api.Fine
}
