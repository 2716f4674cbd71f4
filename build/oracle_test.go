package build_test

import (
	"cmp"
	"slices"

	"nosale/api"
	"nosale/dice"
	"nosale/oracle"
)

// The oracle goes through all lists of parts, all times and all sets, one by one; it calls nothing of the package.

// nowhere stands in a list of parts for a place that has none.
const nowhere = -1

// stands tells whether each part of a list fits its place, and no two beside each other are a pair.
func stands(b api.BuildBook, list []int) bool {
	for place, part := range list {
		if part != nowhere && !slices.Contains(b.Parts[part].Fits, place) {
			return false
		}
	}
	for i := 1; i < len(list); i++ {
		for _, p := range b.Apart {
			if p.A == list[i-1] && p.B == list[i] || p.A == list[i] && p.B == list[i-1] {
				return false
			}
		}
	}
	return true
}

// machinesOf returns all machines of a book, the least list first.
func machinesOf(b api.BuildBook) [][]int {
	all := oracle.Combined(slices.Repeat([][]int{oracle.UpTo(0, len(b.Parts)-1)}, b.Places))
	return slices.DeleteFunc(all, func(list []int) bool { return !stands(b, list) })
}

// isFilled tells whether there are parts for some places.
func isFilled(b api.BuildBook, places []int) bool {
	choices := slices.Repeat([][]int{{nowhere}}, b.Places)
	for _, place := range places {
		choices[place] = oracle.UpTo(0, len(b.Parts)-1)
	}
	return slices.ContainsFunc(oracle.Combined(choices), func(list []int) bool { return stands(b, list) })
}

// whyOf returns the fewest places for which there are no parts.
func whyOf(b api.BuildBook) []int {
	for _, places := range oracle.Subsets(b.Places) {
		if !isFilled(b, places) {
			return places
		}
	}
	return nil
}

// differentOf returns how many different parts a machine has.
func differentOf(machine []int) int {
	list := slices.Clone(machine)
	slices.Sort(list)
	return len(slices.Compact(list))
}

// sumOf returns the sum of what is told of each part of a machine.
func sumOf(machine []int, tell func(part int) int) int {
	sum := 0
	for _, part := range machine {
		sum += tell(part)
	}
	return sum
}

// costOf returns the cost of a machine.
func costOf(b api.BuildBook, machine []int) int {
	return sumOf(machine, func(part int) int { return b.Parts[part].Cost })
}

// took returns how many ticks a machine takes.
func took(machine, times []int) int {
	return sumOf(machine, func(part int) int { return times[part] })
}

// pasts returns all histories of a book.
func pasts(b api.BuildBook) [][]int {
	var spans [][]int
	for _, p := range b.Parts {
		spans = append(spans, oracle.UpTo(p.Time.Low, p.Time.High))
	}
	return slices.DeleteFunc(oracle.Combined(spans), func(times []int) bool {
		return slices.ContainsFunc(b.Trials, func(t api.BuildTrial) bool {
			n := took(t.Parts, times)
			return n < t.Took.Low || n > t.Took.High
		})
	})
}

// timesOf returns the times of a part in histories.
func timesOf(all [][]int, part int) []int {
	return oracle.Numbers(all, func(times []int) int { return times[part] })
}

// turnsOf returns the least and the most ticks that a machine takes.
func turnsOf(all [][]int, machine []int) api.Span {
	return oracle.Span(all, func(times []int) int { return took(machine, times) })
}

// lateOf returns whether a machine is late.
func lateOf(b api.BuildBook, all [][]int, machine []int) api.Sure {
	s := turnsOf(all, machine)
	switch {
	case s.High <= b.Beat:
		return api.No
	case s.Low > b.Beat:
		return api.Yes
	}
	return api.Open
}

// safeOf returns the machines that are late in no history, the least list first.
func safeOf(b api.BuildBook, all [][]int) [][]int {
	return slices.DeleteFunc(machinesOf(b), func(machine []int) bool { return lateOf(b, all, machine) != api.No })
}

// leastOf returns the machine that is counted least, of several the least list.
func leastOf(machines [][]int, count func(machine []int) int) []int {
	return slices.MinFunc(machines, func(a, b []int) int {
		return cmp.Or(cmp.Compare(count(a), count(b)), slices.Compare(a, b))
	})
}

// needsOf returns the parts that no machine lacks.
func needsOf(b api.BuildBook, machines [][]int) []int {
	return slices.DeleteFunc(oracle.UpTo(0, len(b.Parts)-1), func(part int) bool {
		return slices.ContainsFunc(machines, func(machine []int) bool { return !slices.Contains(machine, part) })
	})
}

// built returns a book with the parts that are left when a machine was built, and whether there were enough.
func built(b api.BuildBook, machine []int) (api.BuildBook, bool) {
	o := clone(b)
	for _, part := range machine {
		o.Parts[part].Stock--
	}
	return o, !slices.ContainsFunc(o.Parts, func(p api.BuildPart) bool { return p.Stock < 0 })
}

// buildsOf returns how many of some machines can be built: all stocks that can be left are gone through, one machine after the other.
func buildsOf(b api.BuildBook, machines [][]int) int {
	now := []api.BuildBook{b}
	for many := 0; ; many++ {
		next := map[[api.MaxBuildParts]int]api.BuildBook{}
		for _, o := range now {
			for _, machine := range machines {
				if left, enough := built(o, machine); enough {
					var key [api.MaxBuildParts]int
					for part, p := range left.Parts {
						key[part] = p.Stock
					}
					next[key] = left
				}
			}
		}
		if len(next) == 0 {
			return many
		}
		now = nil
		for _, o := range next {
			now = append(now, o)
		}
	}
}

// alone returns a book with some of its trials alone.
func alone(b api.BuildBook, trials []int) api.BuildBook {
	b.Trials = oracle.Picked(b.Trials, trials)
	return b
}

// clashOf returns the fewest trials that contradict each other.
func clashOf(b api.BuildBook) []int {
	for _, trials := range oracle.Subsets(len(b.Trials)) {
		if len(pasts(alone(b, trials))) == 0 {
			return trials
		}
	}
	return nil
}

// askOf returns the part to measure, and how many histories are left at most.
func askOf(b api.BuildBook, all [][]int) (part, left int) {
	return oracle.Ask(all, len(b.Parts), func(times []int, part int) int { return times[part] })
}

// anyPart returns a part, and the time that it really has.
func anyPart(d *dice.Dice, name string, places int) (api.BuildPart, int) {
	time := d.Roll(2 + d.Roll(api.MaxBuildTime))
	p := api.BuildPart{Name: name, Cost: d.Roll(4 + d.Roll(8)), Stock: d.Roll(api.MaxBuildStock + 1), Time: d.Around(time, 1+d.Roll(api.MaxBuildWide), 0, api.MaxBuildTime)}
	for place := range places {
		if d.Roll(3) > 0 {
			p.Fits = append(p.Fits, place)
		}
	}
	return p, time
}

// anyBook returns a book without a bell, and the times that its parts really have; if lies is true, what the trials say can be false.
func anyBook(d *dice.Dice, lies bool) (api.BuildBook, []int) {
	b := api.BuildBook{Beat: 1 + d.Roll(40), Places: 1 + d.Roll(api.MaxBuildPlaces)}
	var real []int
	for i := range 1 + d.Roll(api.MaxBuildParts) {
		p, time := anyPart(d, []string{"cam", "gear", "pawl", "rack7", "zzzzzzzzzz"}[i], b.Places)
		b.Parts, real = append(b.Parts, p), append(real, time)
	}
	for range d.Roll(api.MaxBuildApart + 1) {
		one, other := d.Roll(len(b.Parts)), d.Roll(len(b.Parts))
		p := pair(min(one, other), max(one, other))
		if d.Roll(2) == 0 && !slices.Contains(b.Apart, p) {
			b.Apart = append(b.Apart, p)
		}
	}
	all := machinesOf(b)
	if len(all) == 0 {
		return b, real
	}
	// a beat that parts the machines
	if s := turnsOf([][]int{real}, all[d.Roll(len(all))]); d.Roll(3) > 0 {
		b.Beat = min(api.MaxBuildBeat, max(1, s.Low+d.Roll(5)))
	}
	for range d.Roll(api.MaxBuildTrials + 1) {
		machine := all[d.Roll(len(all))]
		s := d.Around(took(machine, real), 1+d.Roll(4), 0, api.MaxBuildTook)
		if lies && d.Roll(2) == 0 {
			// each of several trials can be right, but not all of them
			s = d.Around(max(0, took(machine, real)+d.Roll(5)-2), 1+d.Roll(2), 0, api.MaxBuildTook)
		}
		b.Trials = append(b.Trials, api.BuildTrial{Parts: machine, Took: s})
	}
	return b, real
}
