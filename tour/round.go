package tour

import (
	"iter"
	"slices"

	"nosale/api"
	"nosale/lists"
)

// rounds yields all rounds of some jobs, the least list first.
func rounds(jobs []int) iter.Seq[[]int] {
	return func(yield func([]int) bool) {
		// fill goes on behind the jobs of a round, and tells whether more is wanted.
		var fill func(round []int) bool
		fill = func(round []int) bool {
			if !yield(round) {
				return false
			}
			for _, job := range jobs {
				if slices.Contains(round, job) {
					continue
				}
				if !fill(append(slices.Clone(round), job)) {
					return false
				}
			}
			return true
		}
		fill(nil)
	}
}

// load returns how many parts of each kind a round takes.
func (b book) load(round []int) []int {
	load := make([]int, b.Kinds)
	for _, job := range round {
		for kind, n := range b.Jobs[job].Parts {
			load[kind] += n
		}
	}
	return load
}

// fits tells whether the bag holds the parts of a round.
func (b book) fits(round []int) bool {
	sum := 0
	for _, n := range b.load(round) {
		sum += n
	}
	return sum <= b.Bag
}

// best returns the first one of some rounds, and when the traveller can be home from it. There is one at least.
func (c checked) best(some [][]int) (round []int, home api.Span) {
	round, _ = lists.Least(c.compare, some...)
	return round, c.plan(round).home
}

// safe returns all safe rounds. The one without jobs is always one.
func (c checked) safe() [][]int {
	all := slices.Collect(rounds(lists.OfSet(1<<len(c.Jobs) - 1)))
	var safe [][]int
	for _, i := range lists.Those(len(all), func(i int) bool { return c.isSafe(all[i]) }) {
		safe = append(safe, all[i])
	}
	return safe
}

// orders returns all orders of some jobs.
func orders(jobs []int) [][]int {
	var all [][]int
	for round := range rounds(jobs) {
		if len(round) == len(jobs) {
			all = append(all, round)
		}
	}
	return all
}

// never returns the jobs that are in no safe round, ascending. If a job is in a safe round it is safe by itself: without the other jobs the bag holds its parts, too, and it never ends later.
func (c checked) never() []int {
	return lists.Those(len(c.Jobs), func(job int) bool { return !c.isSafe([]int{job}) })
}
