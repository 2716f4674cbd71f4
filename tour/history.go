package tour

import (
	"iter"

	"nosale/api"
	"nosale/histories"
	"nosale/lists"
	"nosale/spans"
)

// times is the time of each way; behind the last way there are zeros.
type times [api.MaxTourWays]int

// works is the work of each job; behind the last job there are zeros.
type works [api.MaxTourJobs]int

// history is the time of each way, and the work of each job.
type history struct {
	times times
	works works
}

// time returns the time of a way.
func (h history) time(way int) int { return h.times[way] }

// alone yields all times that the ways can have by the notes of a set, which has a bit for each, and no others.
func (b book) alone(notes int) iter.Seq[times] {
	return func(yield func(times) bool) {
		for list := range spans.Filled(len(b.Ways), func(way int) api.Span { return b.Ways[way].Time }) {
			var t times
			copy(t[:], list)
			if b.agree(notes, t) && !yield(t) {
				return
			}
		}
	}
}

// agree tells whether the notes of a set agree with the times of ways.
func (b book) agree(notes int, t times) bool {
	for _, i := range lists.OfSet(notes) {
		sum := 0
		for _, way := range b.Notes[i].Ways {
			sum += t[way]
		}
		if !spans.Has(b.Notes[i].Took, sum) {
			return false
		}
	}
	return true
}

// travels yields all times that the ways can have.
func (b book) travels() iter.Seq[times] { return b.alone(1<<len(b.Notes) - 1) }

// allWorks yields all works that the jobs can have.
func (b book) allWorks() iter.Seq[works] {
	return func(yield func(works) bool) {
		for list := range spans.Filled(len(b.Jobs), func(job int) api.Span { return b.Jobs[job].Work }) {
			var w works
			copy(w[:], list)
			if !yield(w) {
				return
			}
		}
	}
}

// histories yields all histories of the book.
func (b book) histories() iter.Seq[history] {
	return func(yield func(history) bool) {
		for t := range b.travels() {
			for w := range b.allWorks() {
				if !yield(history{t, w}) {
					return
				}
			}
		}
	}
}

// clash returns the fewest notes that alone have no history, and of several such lists the least one; none if there is a history.
func (b book) clash() []int {
	notes, _ := lists.LeastSet(len(b.Notes), func(set int) bool { return !histories.Any(b.alone(set)) })
	return notes
}
