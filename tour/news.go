package tour

import (
	"slices"

	"nosale/api"
	"nosale/histories"
)

// copyBook returns a book that shares no memory with b.
func copyBook(b api.TourBook) api.TourBook {
	b.Places = slices.Clone(b.Places)
	b.Ways = slices.Clone(b.Ways)
	b.Jobs = slices.Clone(b.Jobs)
	for i, j := range b.Jobs {
		b.Jobs[i].Parts = slices.Clone(j.Parts)
	}
	b.Notes = slices.Clone(b.Notes)
	for i, n := range b.Notes {
		b.Notes[i].Ways = slices.Clone(n.Ways)
	}
	return b
}

// ifPossible returns a book if it has no bell, and a history.
func ifPossible(b api.TourBook) (api.TourBook, api.Bell) {
	o, l := open(b)
	return histories.IfAny(b, l, o.travels)
}
