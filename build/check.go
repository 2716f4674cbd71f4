package build

import (
	"slices"

	"nosale/api"
	"nosale/checks"
	"nosale/names"
	"nosale/spans"
)

// book is a book that can have a bell.
type book struct{ api.BuildBook }

// open returns a book that has no bell, or the bell.
func open(b api.BuildBook) (book, api.Bell) {
	if l := CheckBook(b); l != api.Fine {
		return book{}, l
	}
	return book{b}, api.Fine
}

// openMachine returns a book that has no bell, if a machine of it has none, or the bell.
func openMachine(b api.BuildBook, list []int) (book, api.Bell) {
	o, l := open(b)
	if l == api.Fine {
		l = o.checkMachine(list)
	}
	return o, l
}

// lists returns the lists of a book in the order in which they are checked.
func (b book) lists() []checks.List[book] {
	return []checks.List[book]{
		{Long: book.longParts, Bell: book.checkPart},
		{Long: book.longApart, Bell: book.checkPair},
		{Long: book.longTrials, Bell: book.checkTrial},
	}
}

// bell returns the first bell of the book.
func (b book) bell() api.Bell {
	if !spans.Within(b.Beat, 1, api.MaxBuildBeat) || !spans.Within(b.Places, 1, api.MaxBuildPlaces) {
		return api.Bound
	}
	return checks.First(b, b.lists()...)
}

func (b book) longParts() (many int, right bool) {
	return len(b.Parts), spans.Within(len(b.Parts), 1, api.MaxBuildParts)
}

func (b book) longApart() (many int, right bool) {
	return len(b.Apart), len(b.Apart) <= api.MaxBuildApart
}

func (b book) longTrials() (many int, right bool) {
	return len(b.Trials), len(b.Trials) <= api.MaxBuildTrials
}

// checkPart returns the bell of a part.
func (b book) checkPart(i int) api.Bell {
	p := b.Parts[i]
	if l := names.Bell(i, func(i int) string { return b.Parts[i].Name }); l != api.Fine {
		return l
	}
	if !spans.Within(p.Cost, 0, api.MaxBuildCost) || !spans.Within(p.Stock, 0, api.MaxBuildStock) {
		return api.Bound
	}
	if !spans.IsFrom(p.Time, 0, api.MaxBuildTime) || spans.Many(p.Time) > api.MaxBuildWide {
		return api.Bound
	}
	return checks.Rising(p.Fits, b.Places)
}

// checkPair returns the bell of a pair.
func (b book) checkPair(i int) api.Bell {
	p := b.Apart[i]
	if !b.hasPart(p.A) || !b.hasPart(p.B) {
		return api.Missing
	}
	if p.A > p.B {
		return api.Order
	}
	if slices.Contains(b.Apart[:i], p) {
		return api.Twice
	}
	return api.Fine
}

// checkTrial returns the bell of a trial.
func (b book) checkTrial(i int) api.Bell {
	t := b.Trials[i]
	if l := b.checkMachine(t.Parts); l != api.Fine {
		return l
	}
	if !spans.IsFrom(t.Took, 0, api.MaxBuildTook) {
		return api.Bound
	}
	return api.Fine
}

// checkMachine returns the bell of a machine.
func (b book) checkMachine(list []int) api.Bell {
	if len(list) != b.Places {
		return api.Count
	}
	for _, part := range list {
		if !b.hasPart(part) {
			return api.Missing
		}
	}
	for place, part := range list {
		if !b.canStand(part, list[:place]) {
			return api.Shape
		}
	}
	return api.Fine
}

// hasPart tells whether a number is the index of a part.
func (b book) hasPart(part int) bool { return spans.Within(part, 0, len(b.Parts)-1) }

// hasPlace tells whether a number is the index of a place.
func (b book) hasPlace(place int) bool { return spans.Within(place, 0, b.Places-1) }
