package checks

import (
	"testing"

	"nosale/api"
)

// pages is a book: the bells of the elements of its two lists, which have two at most.
type pages struct{ one, two []api.Bell }

func lists() []List[pages] {
	return []List[pages]{
		{func(b pages) (int, bool) { return len(b.one), len(b.one) <= 2 }, func(b pages, i int) api.Bell { return b.one[i] }},
		{func(b pages) (int, bool) { return len(b.two), len(b.two) <= 2 }, func(b pages, i int) api.Bell { return b.two[i] }},
	}
}

// R1: how many elements there are is looked at first, then the first element that has a bell decides, list by list.
func TestFirst(t *testing.T) {
	long := []api.Bell{api.Odds, api.Odds, api.Odds}
	for i, x := range []struct {
		b    pages
		want api.Bell
	}{
		{pages{}, api.Fine},
		{pages{one: []api.Bell{api.Fine, api.Fine}, two: []api.Bell{api.Fine}}, api.Fine},
		{pages{one: []api.Bell{api.Fine, api.Order}}, api.Order},
		{pages{one: []api.Bell{api.Label, api.Bound}}, api.Label},
		{pages{two: []api.Bell{api.Fine, api.Twice}}, api.Twice},
		{pages{one: []api.Bell{api.Missing}, two: []api.Bell{api.Bound}}, api.Missing},
		{pages{one: long}, api.Count},
		{pages{two: long}, api.Count},
		{pages{one: long, two: []api.Bell{api.Bound}}, api.Count},
		{pages{one: []api.Bell{api.Shape}, two: long}, api.Shape},
		{pages{one: []api.Bell{api.Fine}, two: long}, api.Count},
	} {
		if l := First(x.b, lists()...); l != x.want {
			t.Errorf("%d: bell %d, want %d", i, l, x.want)
		}
	}
	if l := First(pages{one: long}); l != api.Fine {
		t.Errorf("no lists: bell %d", l)
	}
}
