package tour

import (
	"slices"

	"nosale/api"
	"nosale/checks"
	"nosale/names"
	"nosale/spans"
)

// book is a book that can have a bell.
type book struct{ api.TourBook }

// open returns a book that has no bell, or the bell.
func open(b api.TourBook) (book, api.Bell) {
	if l := CheckBook(b); l != api.Fine {
		return book{}, l
	}
	return book{b}, api.Fine
}

// openRound returns a book that has no bell, if a round of it has none, or the bell.
func openRound(b api.TourBook, round []int) (book, api.Bell) {
	o, l := open(b)
	if l == api.Fine {
		l = checks.Once(round, len(o.Jobs))
	}
	return o, l
}

// lists returns the lists of a book in the order in which they are checked. Places are gone through again once it is known which ways there are.
func (b book) lists() []checks.List[book] {
	return []checks.List[book]{
		{Long: book.longPlaces, Bell: book.checkPlace},
		{Long: book.longWays, Bell: book.checkWay},
		{Long: book.longPlaces, Bell: book.checkReach},
		{Long: book.longJobs, Bell: book.checkJob},
		{Long: book.longNotes, Bell: book.checkNote},
	}
}

// bell returns the first bell of the book.
func (b book) bell() api.Bell {
	if !spans.Within(b.Bag, 0, api.MaxTourBag) || !spans.Within(b.Kinds, 0, api.MaxTourKinds) {
		return api.Bound
	}
	return checks.First(b, b.lists()...)
}

func (b book) longPlaces() (many int, right bool) {
	return len(b.Places), spans.Within(len(b.Places), 1, api.MaxTourPlaces)
}

func (b book) longWays() (many int, right bool) {
	return len(b.Ways), len(b.Ways) <= api.MaxTourWays
}

func (b book) longJobs() (many int, right bool) {
	return len(b.Jobs), len(b.Jobs) <= api.MaxTourJobs
}

func (b book) longNotes() (many int, right bool) {
	return len(b.Notes), len(b.Notes) <= api.MaxTourNotes
}

// checkPlace returns the bell of a place.
func (b book) checkPlace(i int) api.Bell {
	return names.Bell(i, func(i int) string { return b.Places[i] })
}

// checkWay returns the bell of a way.
func (b book) checkWay(i int) api.Bell {
	w := b.Ways[i]
	if !b.hasPlace(w.A) || !b.hasPlace(w.B) {
		return api.Missing
	}
	if w.A >= w.B {
		return api.Order
	}
	if slices.ContainsFunc(b.Ways[:i], func(before api.TourWay) bool { return before.A == w.A && before.B == w.B }) {
		return api.Twice
	}
	if !isTime(w.Time) {
		return api.Bound
	}
	return api.Fine
}

// checkReach returns the bell of a place that cannot be reached from the works.
func (b book) checkReach(place int) api.Bell {
	// which places can be reached does not depend on the times
	if _, leads := b.trips(times{})[trip{start, place}]; !leads {
		return api.Short
	}
	return api.Fine
}

// checkJob returns the bell of a job.
func (b book) checkJob(i int) api.Bell {
	j := b.Jobs[i]
	if !b.hasPlace(j.Place) {
		return api.Missing
	}
	if !isTime(j.Work) || !spans.Within(j.Due, 0, api.MaxTourDue) {
		return api.Bound
	}
	return checks.Each(j.Parts, b.Kinds, api.MaxTourPart)
}

// checkNote returns the bell of a note.
func (b book) checkNote(i int) api.Bell {
	n := b.Notes[i]
	if len(n.Ways) > api.MaxTourTrip {
		return api.Count
	}
	for _, way := range n.Ways {
		if !b.hasWay(way) {
			return api.Missing
		}
	}
	if !spans.IsFrom(n.Took, 0, api.MaxTourTook) {
		return api.Bound
	}
	return api.Fine
}

// isTime tells whether a span is one of the time of a way, or of the work of a job.
func isTime(s api.Span) bool {
	return spans.IsFrom(s, 0, api.MaxTourTime) && spans.Many(s) <= api.MaxTourWide
}

// hasPlace tells whether a number is the index of a place.
func (b book) hasPlace(place int) bool { return spans.Within(place, 0, len(b.Places)-1) }

// hasWay tells whether a number is the index of a way.
func (b book) hasWay(way int) bool { return spans.Within(way, 0, len(b.Ways)-1) }

// hasJob tells whether a number is the index of a job.
func (b book) hasJob(job int) bool { return spans.Within(job, 0, len(b.Jobs)-1) }
