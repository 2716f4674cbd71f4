package wheels_test

import (
	"slices"

	"nosale/api"
	"nosale/dice"
)

// The oracle goes through all starts and all sets of slips, one by one, and keeps those that can be; it calls nothing of the package.

// past is a history: what the wheels showed at first and behind each ring, and the carries that slipped.
type past struct {
	shown [][]int
	slips []api.WheelsSlip
}

// ringing rings keys on digits; can is false if a wheel of slips does not carry.
func ringing(ws []api.WheelsWheel, digits, keys []int, slips []int) (after, carries []int, can bool) {
	by := 0
	for w, x := range ws {
		n := digits[w] + keys[w] + by
		times := 0
		for n >= x.Base {
			n -= x.Base
			times++
		}
		after = append(after, n)
		by = 0
		if times > 0 {
			carries = append(carries, w)
			by = 1
		}
		if slices.Contains(slips, w) {
			if times == 0 || w == len(ws)-1 || x.Kind == api.WheelsTight {
				return nil, nil, false
			}
			by = 0
			if x.Kind == api.WheelsDoubles {
				by = 2
			}
		}
	}
	return after, carries, true
}

// starts returns all digits that the wheels can have shown at first.
func starts(b api.WheelsBook) [][]int {
	all := [][]int{nil}
	for w, d := range b.Start {
		var more [][]int
		for _, s := range all {
			for n := range b.Wheels[w].Base {
				if d == -1 || d == n {
					more = append(more, append(slices.Clone(s), n))
				}
			}
		}
		all = more
	}
	return all
}

// slipSets returns all lists of at most Most slips, in order.
func slipSets(b api.WheelsBook) [][]api.WheelsSlip {
	var each []api.WheelsSlip
	for r := range b.Rings {
		for w := range b.Wheels {
			each = append(each, api.WheelsSlip{Ring: r, Wheel: w})
		}
	}
	all := [][]api.WheelsSlip{nil}
	if b.Most >= 1 {
		for _, s := range each {
			all = append(all, []api.WheelsSlip{s})
		}
	}
	if b.Most >= 2 {
		for i, s := range each {
			for _, o := range each[i+1:] {
				all = append(all, []api.WheelsSlip{s, o})
			}
		}
	}
	return all
}

// pasts returns all histories of a book.
func pasts(b api.WheelsBook) []past {
	var all []past
	for _, start := range starts(b) {
	sets:
		for _, slips := range slipSets(b) {
			p := past{[][]int{start}, slips}
			for r, x := range b.Rings {
				var here []int
				for _, s := range slips {
					if s.Ring == r {
						here = append(here, s.Wheel)
					}
				}
				after, _, can := ringing(b.Wheels, p.shown[r], x.Keys, here)
				if !can || !fits(after, x.Read) {
					continue sets
				}
				p.shown = append(p.shown, after)
			}
			all = append(all, p)
		}
	}
	return all
}

// fits tells whether digits are what was read.
func fits(digits, read []int) bool {
	for w, d := range read {
		if d != -1 && d != digits[w] {
			return false
		}
	}
	return true
}

// worth returns the amount of digits.
func worth(b api.WheelsBook, digits []int) int {
	sum, unit := 0, 1
	for w, d := range digits {
		sum += d * unit
		unit *= b.Wheels[w].Base
	}
	return sum
}

func span(b api.WheelsBook) int {
	n := 1
	for _, w := range b.Wheels {
		n *= w.Base
	}
	return n
}

func keySum(b api.WheelsBook) int {
	sum := 0
	for _, r := range b.Rings {
		sum += worth(b, r.Keys)
	}
	return sum
}

// off returns the error of a history: it tries each number that it can be.
func off(b api.WheelsBook, p past) int {
	n := span(b)
	d := worth(b, p.shown[len(b.Rings)]) - worth(b, p.shown[0]) - keySum(b)
	for e := -n; e <= n; e++ {
		if 2*e > -n && 2*e <= n && (d-e)%n == 0 {
			return e
		}
	}
	panic("no error")
}

// once returns numbers, ascending, each once.
func once(list []int) []int {
	slices.Sort(list)
	return slices.Compact(list)
}

// amountsBehind returns the amounts that histories show behind so many rings.
func amountsBehind(b api.WheelsBook, all []past, rings int) []int {
	var list []int
	for _, p := range all {
		list = append(list, worth(b, p.shown[rings]))
	}
	return once(list)
}

func errorsOf(b api.WheelsBook, all []past) []int {
	var list []int
	for _, p := range all {
		list = append(list, off(b, p))
	}
	return once(list)
}

// sureOf returns how sure a slip is.
func sureOf(all []past, s api.WheelsSlip) api.Sure {
	n := 0
	for _, p := range all {
		if slices.Contains(p.slips, s) {
			n++
		}
	}
	switch n {
	case 0:
		return api.No
	case len(all):
		return api.Yes
	}
	return api.Open
}

// leastSlips returns the fewest slips, and of several lists the least one.
func leastSlips(all []past) []api.WheelsSlip {
	best := all[0].slips
	for _, p := range all {
		if len(p.slips) < len(best) || len(p.slips) == len(best) && slices.CompareFunc(p.slips, best, bySlip) < 0 {
			best = p.slips
		}
	}
	return best
}

func bySlip(a, b api.WheelsSlip) int {
	if a.Ring != b.Ring {
		return a.Ring - b.Ring
	}
	return a.Wheel - b.Wheel
}

// onlyRead returns the book in which only these rings are read.
func onlyRead(b api.WheelsBook, rings []int) api.WheelsBook {
	o := clone(b)
	for r := range o.Rings {
		if !slices.Contains(rings, r) {
			o.Rings[r].Read = nil
		}
	}
	return o
}

// clashOf returns the fewest rings that contradict each other: all lists of indexes are tried, the shorter ones first.
func clashOf(b api.WheelsBook) []int {
	if len(pasts(b)) > 0 {
		return nil
	}
	lists := [][]int{nil}
	for len(lists) > 0 {
		var more [][]int
		for _, list := range lists {
			if len(pasts(onlyRead(b, list))) == 0 {
				return list
			}
			next := 0
			if len(list) > 0 {
				next = list[len(list)-1] + 1
			}
			for r := next; r < len(b.Rings); r++ {
				more = append(more, append(slices.Clone(list), r))
			}
		}
		lists = more
	}
	panic("no clash")
}

// lookOf returns where to look, and how many histories are left then.
func lookOf(b api.WheelsBook, all []past) (ring, left int) {
	ring, left = -1, len(all)
	for r, x := range b.Rings {
		if len(x.Read) > 0 {
			continue
		}
		worst := 0
		for _, p := range all {
			same := 0
			for _, o := range all {
				if slices.Equal(p.shown[r+1], o.shown[r+1]) {
					same++
				}
			}
			worst = max(worst, same)
		}
		if worst < left {
			ring, left = r, worst
		}
	}
	return ring, left
}

// anyBook returns a book without a bell, and what really happened; if lies is true, what was read can be false.
func anyBook(d *dice.Dice, lies bool) (api.WheelsBook, past) {
	b := api.WheelsBook{Most: d.Roll(3)}
	for range 1 + d.Roll(4) {
		b.Wheels = append(b.Wheels, api.WheelsWheel{Base: 2 + d.Roll(4), Kind: api.WheelsKind(d.Roll(3))})
	}
	for range d.Roll(5) {
		b.Rings = append(b.Rings, api.WheelsRing{Keys: anyDigits(d, b)})
	}
	b.Start = anyDigits(d, b)
	all := pasts(b)
	truth := all[d.Roll(len(all))]
	for range d.Roll(3) {
		b.Start[d.Roll(len(b.Start))] = -1
	}
	for r := range b.Rings {
		if d.Roll(2) == 0 {
			continue
		}
		read := slices.Clone(truth.shown[r+1])
		if lies && d.Roll(3) == 0 {
			read = anyDigits(d, b)
		}
		for w := range read {
			if d.Roll(3) == 0 {
				read[w] = -1
			}
		}
		b.Rings[r].Read = read
	}
	return b, truth
}

// anyDigits returns digits of a machine; every second one is the greatest number of its wheel or near it, so that there are carries.
func anyDigits(d *dice.Dice, b api.WheelsBook) []int {
	var list []int
	for _, w := range b.Wheels {
		n := d.Roll(w.Base)
		if d.Roll(2) == 0 {
			n = w.Base - 1
		}
		list = append(list, n)
	}
	return list
}
