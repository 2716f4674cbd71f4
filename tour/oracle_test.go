package tour_test

import (
	"cmp"
	"math"
	"slices"

	"nosale/api"
	"nosale/dice"
	"nosale/oracle"
)

// The oracle goes through all times, all works, all paths and all rounds, one by one; it calls nothing of the package.

// past is what is really so: the time of each way, and the work of each job; and the time between each two places.
type past struct {
	ways, works []int
	far         [][]int
}

// walk returns the least time from a place to another one, if some places are left out; a great number if one does not come there.
func walk(b api.TourBook, ways []int, at, to int, out []int) int {
	if at == to {
		return 0
	}
	least := math.MaxInt32
	for i, w := range b.Ways {
		next := w.A + w.B - at
		if at != w.A && at != w.B || slices.Contains(out, next) {
			continue
		}
		least = min(least, ways[i]+walk(b, ways, next, to, append(slices.Clone(out), at)))
	}
	return least
}

// pastOf returns what is so if the ways take some times, and the jobs some works.
func pastOf(b api.TourBook, ways, works []int) past {
	p := past{ways: ways, works: works}
	for one := range b.Places {
		var far []int
		for two := range b.Places {
			far = append(far, walk(b, ways, one, two, nil))
		}
		p.far = append(p.far, far)
	}
	return p
}

// took returns how long a trip over ways takes.
func took(ways, times []int) int {
	sum := 0
	for _, way := range ways {
		sum += times[way]
	}
	return sum
}

// isNoted tells whether the times of ways agree with all notes.
func isNoted(b api.TourBook, ways []int) bool {
	for _, n := range b.Notes {
		if !oracle.Has(n.Took, took(n.Ways, ways)) {
			return false
		}
	}
	return true
}

// agrees tells whether what is so is a history of a book.
func agrees(b api.TourBook, p past) bool {
	for i, w := range b.Ways {
		if !oracle.Has(w.Time, p.ways[i]) {
			return false
		}
	}
	for i, j := range b.Jobs {
		if !oracle.Has(j.Work, p.works[i]) {
			return false
		}
	}
	return isNoted(b, p.ways)
}

// pasts returns all histories of a book.
func pasts(b api.TourBook) []past {
	var times, works [][]int
	for _, w := range b.Ways {
		times = append(times, oracle.UpTo(w.Time.Low, w.Time.High))
	}
	for _, j := range b.Jobs {
		works = append(works, oracle.UpTo(j.Work.Low, j.Work.High))
	}
	var all []past
	for _, ways := range oracle.Combined(times) {
		if !isNoted(b, ways) {
			continue
		}
		p := pastOf(b, ways, nil)
		for _, list := range oracle.Combined(works) {
			all = append(all, past{ways, list, p.far})
		}
	}
	return all
}

// ordersOf returns all orders of some jobs.
func ordersOf(jobs []int) [][]int {
	return oracle.Kept(oracle.Combined(slices.Repeat([][]int{jobs}, len(jobs))), isOnce)
}

// isOnce tells whether each number of a list is there once.
func isOnce(list []int) bool {
	sorted := slices.Sorted(slices.Values(list))
	return len(slices.Compact(sorted)) == len(list)
}

// roundsOf returns all rounds of a book.
func roundsOf(b api.TourBook) [][]int {
	var all [][]int
	for _, jobs := range oracle.Subsets(len(b.Jobs)) {
		all = append(all, ordersOf(jobs)...)
	}
	return all
}

// travel returns when each job of a round ends, and when the traveller is home.
func travel(b api.TourBook, p past, round []int) (ends []int, home int) {
	at, now := 0, 0
	for _, job := range round {
		now += p.far[at][b.Jobs[job].Place]
		now += p.works[job]
		ends = append(ends, now)
		at = b.Jobs[job].Place
	}
	return ends, now + p.far[at][0]
}

// endOf returns when the job in a place of a round ends.
func endOf(b api.TourBook, p past, round []int, at int) int {
	ends, _ := travel(b, p, round)
	return ends[at]
}

// homeOf returns when the traveller is home.
func homeOf(b api.TourBook, p past, round []int) int {
	_, home := travel(b, p, round)
	return home
}

// isLateIn tells whether the job in a place of a round is late.
func isLateIn(b api.TourBook, p past, round []int, at int) bool {
	return endOf(b, p, round, at) > b.Jobs[round[at]].Due
}

// loadOf returns how many parts of each kind a round takes.
func loadOf(b api.TourBook, round []int) []int {
	var load []int
	for kind := range b.Kinds {
		n := 0
		for _, job := range round {
			n += b.Jobs[job].Parts[kind]
		}
		load = append(load, n)
	}
	return load
}

// fitsIn tells whether the bag holds the parts of a round.
func fitsIn(b api.TourBook, round []int) bool {
	left := b.Bag
	for _, n := range loadOf(b, round) {
		left -= n
	}
	return left >= 0
}

// isSafeIn tells whether the bag holds the parts of a round, and no job of it is late in any of some histories.
func isSafeIn(b api.TourBook, all []past, round []int) bool {
	for at := range round {
		if slices.ContainsFunc(all, func(p past) bool { return isLateIn(b, p, round, at) }) {
			return false
		}
	}
	return fitsIn(b, round)
}

// latest returns when the traveller is home from a round at the latest.
func latest(b api.TourBook, all []past, round []int) int {
	return oracle.Span(all, func(p past) int { return homeOf(b, p, round) }).High
}

// firstOf returns the round with the most jobs of some rounds, of several the one from which the traveller is home earliest at the latest, and of several the least list.
func firstOf(b api.TourBook, all []past, rounds [][]int) (round []int, home api.Span) {
	round = slices.MinFunc(rounds, func(one, two []int) int {
		return cmp.Or(cmp.Compare(len(two), len(one)), cmp.Compare(latest(b, all, one), latest(b, all, two)), slices.Compare(one, two))
	})
	return round, oracle.Span(all, func(p past) int { return homeOf(b, p, round) })
}

// bestOf returns the best safe round.
func bestOf(b api.TourBook, all []past) (round []int, home api.Span) {
	return firstOf(b, all, oracle.Kept(roundsOf(b), func(round []int) bool { return isSafeIn(b, all, round) }))
}

// neverOf returns the jobs that are in no safe round.
func neverOf(b api.TourBook, all []past) []int {
	safe := oracle.Kept(roundsOf(b), func(round []int) bool { return isSafeIn(b, all, round) })
	return oracle.Kept(oracle.Indexes(len(b.Jobs)), func(job int) bool {
		return !slices.ContainsFunc(safe, func(round []int) bool { return slices.Contains(round, job) })
	})
}

// alone returns a book with some of its notes alone.
func alone(b api.TourBook, notes []int) api.TourBook {
	b.Notes = oracle.Picked(b.Notes, notes)
	return b
}

// clashOf returns the fewest notes that alone have no history.
func clashOf(b api.TourBook) []int {
	for _, notes := range oracle.Subsets(len(b.Notes)) {
		if len(pasts(alone(b, notes))) == 0 {
			return notes
		}
	}
	return nil
}

// askOf returns the way to measure, and how many histories are left at most.
func askOf(b api.TourBook, all []past) (way, left int) {
	return oracle.Ask(all, len(b.Ways), func(p past, way int) int { return p.ways[way] })
}

// some returns a span of one or two numbers in which a number is.
func some(d *dice.Dice, n int) api.Span {
	return d.Around(n, min(api.MaxTourWide, 1+d.Roll(3)), 0, api.MaxTourTime)
}

// anyPlaces returns a book with places and ways alone, and how long the ways really take. Each place is reached from an earlier one, and there are more ways, in any order.
func anyPlaces(d *dice.Dice) (api.TourBook, past) {
	b := api.TourBook{Bag: d.Roll(api.MaxTourBag + 1), Kinds: d.Roll(api.MaxTourKinds + 1), Places: []string{"works", "ayr", "bute", "oban"}[:1+d.Roll(api.MaxTourPlaces)]}
	var ways []api.TourWay
	for place := range b.Places[1:] {
		ways = append(ways, api.TourWay{A: d.Roll(place + 1), B: place + 1})
	}
	for range d.Roll(6) {
		w := api.TourWay{A: d.Roll(len(b.Places)), B: d.Roll(len(b.Places))}
		if w.A < w.B && !slices.Contains(ways, w) && len(ways) < api.MaxTourWays {
			ways = append(ways, w)
		}
	}
	b.Ways = oracle.Picked(ways, d.Shuffled(len(ways)))
	var times []int
	for i := range b.Ways {
		n := d.Roll(9)
		times = append(times, n)
		b.Ways[i].Time = some(d, n)
	}
	return b, past{ways: times}
}

// anyJob returns a job, and what it really takes.
func anyJob(d *dice.Dice, b api.TourBook) (j api.TourJob, work int) {
	work = d.Roll(5)
	j = api.TourJob{Place: d.Roll(len(b.Places)), Work: some(d, work), Due: d.Roll(12 + d.Roll(40))}
	for range b.Kinds {
		j.Parts = append(j.Parts, d.Roll(1+d.Roll(4)))
	}
	return j, work
}

// anyNote returns a note that is right.
func anyNote(d *dice.Dice, b api.TourBook, p past) api.TourNote {
	var n api.TourNote
	for range d.Roll(api.MaxTourTrip + 1) {
		if len(b.Ways) > 0 {
			n.Ways = append(n.Ways, d.Roll(len(b.Ways)))
		}
	}
	n.Took = d.Around(took(n.Ways, p.ways), 1+d.Roll(3), 0, api.MaxTourTook)
	return n
}

// anyBook returns a book without a bell, and what is really so; if wrong is true notes can be wrong.
func anyBook(d *dice.Dice, wrong bool) (api.TourBook, past) {
	b, p := anyPlaces(d)
	for range d.Roll(api.MaxTourJobs + 1) {
		j, work := anyJob(d, b)
		b.Jobs, p.works = append(b.Jobs, j), append(p.works, work)
	}
	for range d.Roll(api.MaxTourNotes + 1) {
		n := anyNote(d, b, p)
		if shift := 1 + d.Roll(3); wrong && d.Roll(3) == 0 {
			n.Took = to(n.Took.Low+shift, n.Took.High+shift)
		}
		b.Notes = append(b.Notes, n)
	}
	return b, pastOf(b, p.ways, p.works)
}
