package build

import (
	"iter"
	"slices"

	"nosale/api"
	"nosale/histories"
	"nosale/lists"
)

// machine is a part for each place; behind the last place there are zeros.
type machine [api.MaxBuildPlaces]int

// empty stands at a place for which no part is looked for.
const empty = -1

// machineOf returns the machine of a list that was checked.
func machineOf(list []int) machine {
	var m machine
	copy(m[:], list)
	return m
}

// list returns a machine as a list that has a part for each place.
func (b book) list(m machine) []int { return slices.Clone(m[:b.Places]) }

// canStand tells whether a part can stand at the place behind others.
func (b book) canStand(part int, before []int) bool {
	place := len(before)
	if !slices.Contains(b.Parts[part].Fits, place) {
		return false
	}
	return place == 0 || !b.isPair(before[place-1], part)
}

// isPair tells whether two parts must not stand beside each other; what is empty is in no pair.
func (b book) isPair(one, other int) bool {
	return slices.Contains(b.Apart, api.BuildPair{A: min(one, other), B: max(one, other)})
}

// machines yields all machines, from the least list on.
func (b book) machines() iter.Seq[machine] { return b.filled(1<<b.Places - 1) }

// filled yields all ways to put a part at each place of a set, which has a bit for each; the others are left empty.
func (b book) filled(places int) iter.Seq[machine] {
	return func(yield func(machine) bool) {
		// fill goes on with a place, and tells whether more is wanted.
		var fill func(m machine, place int) bool
		fill = func(m machine, place int) bool {
			if place == b.Places {
				return yield(m)
			}
			if places>>place&1 == 0 {
				m[place] = empty
				return fill(m, place+1)
			}
			for part := range b.Parts {
				if b.canStand(part, m[:place]) {
					m[place] = part
					if !fill(m, place+1) {
						return false
					}
				}
			}
			return true
		}
		fill(machine{}, 0)
	}
}

// can returns the parts that fit a place, ascending.
func (b book) can(place int) []int {
	var list []int
	for part, p := range b.Parts {
		if slices.Contains(p.Fits, place) {
			list = append(list, part)
		}
	}
	return list
}

// why returns the fewest places for which there are no parts, and of several such lists the least one; none if there is a machine.
func (b book) why() []int {
	places, _ := lists.LeastSet(b.Places, func(set int) bool { return !histories.Any(b.filled(set)) })
	return places
}

// different returns how many different parts a machine has.
func (b book) different(m machine) int {
	many := 0
places:
	for place := range b.Places {
		for _, before := range m[:place] {
			if before == m[place] {
				continue places
			}
		}
		many++
	}
	return many
}

// cost returns what all parts of a machine cost.
func (b book) cost(m machine) int {
	sum := 0
	for _, part := range m[:b.Places] {
		sum += b.Parts[part].Cost
	}
	return sum
}

// has tells whether a part stands in a machine.
func (b book) has(m machine, part int) bool { return slices.Contains(m[:b.Places], part) }
