package wheels_test

import (
	"math"
	"testing"

	"nosale/api"
	"nosale/wheels"
)

// bellCase is a change of the book A, and the bell that it has then.
type bellCase struct {
	name   string
	change func(b *api.WheelsBook)
	want   api.Bell
}

func bellCases() []bellCase {
	wheel := func(base int, kind api.WheelsKind) func(b *api.WheelsBook) {
		return func(b *api.WheelsBook) { b.Wheels[1] = api.WheelsWheel{Base: base, Kind: kind} }
	}
	wide := func(n int) func(b *api.WheelsBook) {
		return func(b *api.WheelsBook) {
			*b = api.WheelsBook{Start: make([]int, n)}
			for range n {
				b.Wheels = append(b.Wheels, api.WheelsWheel{Base: 2})
			}
		}
	}
	start := func(digits ...int) func(b *api.WheelsBook) {
		return func(b *api.WheelsBook) { b.Start = digits }
	}
	keys := func(digits ...int) func(b *api.WheelsBook) {
		return func(b *api.WheelsBook) { b.Rings[1].Keys = digits }
	}
	read := func(digits ...int) func(b *api.WheelsBook) {
		return func(b *api.WheelsBook) { b.Rings[1].Read = digits }
	}
	rings := func(n int) func(b *api.WheelsBook) {
		return func(b *api.WheelsBook) {
			b.Rings = nil
			for range n {
				b.Rings = append(b.Rings, api.WheelsRing{Keys: []int{0, 0, 0}})
			}
		}
	}
	most := func(n int) func(b *api.WheelsBook) { return func(b *api.WheelsBook) { b.Most = n } }
	return []bellCase{
		{"the book A", func(b *api.WheelsBook) {}, api.Fine},
		{"most 0", most(0), api.Fine},
		{"most at the limit", most(api.MaxWheelsMost), api.Fine},
		{"most below 0", most(-1), api.Bound},
		{"most above the limit", most(api.MaxWheelsMost + 1), api.Bound},
		{"most very great", most(math.MaxInt), api.Bound},
		{"most very small", most(math.MinInt), api.Bound},
		{"no wheel", wide(0), api.Count},
		{"one wheel", wide(1), api.Fine},
		{"wheels at the limit", wide(api.MaxWheelsWide), api.Fine},
		{"wheels above the limit", wide(api.MaxWheelsWide + 1), api.Count},
		{"base 2", func(b *api.WheelsBook) { wheel(2, 0)(b); b.Rings = nil }, api.Fine},
		{"base 1", wheel(1, 0), api.Bound},
		{"base 0", wheel(0, 0), api.Bound},
		{"base below 0", wheel(math.MinInt, 0), api.Bound},
		{"base at the limit", wheel(api.MaxWheelsBase, api.WheelsDoubles), api.Fine},
		{"base above the limit", wheel(api.MaxWheelsBase+1, 0), api.Bound},
		{"kind below 0", wheel(20, -1), api.Bound},
		{"kind that is not listed", wheel(20, 3), api.Bound},
		{"kind very great", wheel(20, math.MaxInt), api.Bound},
		{"start too short", start(0, 0), api.Count},
		{"start too long", start(0, 0, 0, 0), api.Count},
		{"start empty", start(), api.Count},
		{"start at the limits", start(11, 19, 9), api.Fine},
		{"start above a base", start(0, 20, 0), api.Bound},
		{"start below -1", start(0, 0, -2), api.Bound},
		{"two digits not known", start(-1, 0, -1), api.Fine},
		{"three digits not known", start(-1, -1, -1), api.Count},
		{"no ring", rings(0), api.Fine},
		{"rings at the limit", rings(api.MaxWheelsRings), api.Fine},
		{"rings above the limit", rings(api.MaxWheelsRings + 1), api.Count},
		{"keys too few", keys(1, 0), api.Count},
		{"no keys", keys(), api.Count},
		{"keys too many", keys(1, 0, 0, 0), api.Count},
		{"key at its limit", keys(11, 19, 9), api.Fine},
		{"key above it", keys(0, 0, 10), api.Bound},
		{"key below 0", keys(-1, 0, 0), api.Bound},
		{"read empty", read([]int{}...), api.Fine},
		{"read too short", read(0, 0), api.Count},
		{"read too long", read(0, 0, 0, 0), api.Count},
		{"read at its limit", read(11, 19, 9), api.Fine},
		{"nothing read", read(-1, -1, -1), api.Fine},
		{"read above a base", read(12, 0, 0), api.Bound},
		{"read below -1", read(0, -2, 0), api.Bound},
	}
}

// P1.1: CheckBook returns the bell of a book, and each limit is allowed.
func TestBellsOfBooks(t *testing.T) {
	for _, x := range bellCases() {
		b := book(t, textA)
		x.change(&b)
		if s := wheels.CheckBook(b); s != x.want {
			t.Errorf("%s: bell %d, want %d", x.name, s, x.want)
		}
	}
}

// P0.2: of several bells the one that is named first is returned.
func TestBellsInOrder(t *testing.T) {
	// From the last bell to the first one: each that is added decides.
	steps := []struct {
		name   string
		change func(b *api.WheelsBook)
		want   api.Bell
	}{
		{"read out of bounds in ring 1", func(b *api.WheelsBook) { b.Rings[1].Read = []int{12, 0, 0} }, api.Bound},
		{"too few read in ring 1", func(b *api.WheelsBook) { b.Rings[1].Read = []int{12} }, api.Count},
		{"key out of bounds in ring 1", func(b *api.WheelsBook) { b.Rings[1].Keys[0] = 12 }, api.Bound},
		{"too few keys in ring 1", func(b *api.WheelsBook) { b.Rings[1].Keys = b.Rings[1].Keys[:1] }, api.Count},
		{"read out of bounds in ring 0", func(b *api.WheelsBook) { b.Rings[0].Read = []int{0, 0, 10} }, api.Bound},
		{"too many rings", func(b *api.WheelsBook) { b.Rings = append(b.Rings, make([]api.WheelsRing, 5)...) }, api.Count},
		{"start out of bounds", func(b *api.WheelsBook) { b.Start = []int{-1, -1, 10} }, api.Bound},
		{"start too short", func(b *api.WheelsBook) { b.Start = []int{-5, -5} }, api.Count},
		{"kind not listed", func(b *api.WheelsBook) { b.Wheels[2].Kind = 7 }, api.Bound},
		{"too many wheels", func(b *api.WheelsBook) { b.Wheels = append(b.Wheels, make([]api.WheelsWheel, 3)...) }, api.Count},
		{"most out of bounds", func(b *api.WheelsBook) { b.Most = 3 }, api.Bound},
	}
	b := book(t, textA)
	for _, x := range steps {
		x.change(&b)
		if s := wheels.CheckBook(b); s != x.want {
			t.Errorf("%s: bell %d, want %d", x.name, s, x.want)
		}
	}
	open := book(t, textA)
	open.Start = []int{-1, -1, -1}
	open.Rings[0].Keys[0] = -1
	if s := wheels.CheckBook(open); s != api.Count {
		t.Errorf("three digits not known come before keys: bell %d", s)
	}
	open.Start[2] = 10
	if s := wheels.CheckBook(open); s != api.Bound {
		t.Errorf("a digit out of bounds comes before the number of those not known: bell %d", s)
	}
}

// notAlone returns the functions that return another bell than want, or something else with it.
func notAlone(b api.WheelsBook, want api.Bell) []string {
	var bad []string
	number := func(name string, n int, s api.Bell) {
		if n != 0 || s != want {
			bad = append(bad, name)
		}
	}
	n, a := wheels.Range(b)
	number("Range", n, a)
	n, a = wheels.Amount(b, []int{77})
	number("Amount", n, a)
	l, a := wheels.Digits(b, -1)
	number("Digits", len(l), a)
	after, carries, a := wheels.Ring(b, nil, []int{-1})
	number("Ring", len(after)+len(carries), a)
	l, a = wheels.Slide(b, nil, nil, []int{-1})
	number("Slide", len(l), a)
	n, a = wheels.Sum(b)
	number("Sum", n, a)
	n, a = wheels.Histories(b)
	number("Histories", n, a)
	l, a = wheels.Shows(b, -1)
	number("Shows", len(l), a)
	sure, a := wheels.Slipped(b, -1, -1)
	number("Slipped", int(sure), a)
	l, a = wheels.Errors(b)
	number("Errors", len(l), a)
	slips, a := wheels.Fewest(b)
	number("Fewest", len(slips), a)
	l, a = wheels.Clash(b)
	number("Clash", len(l), a)
	ring, left, a := wheels.Look(b)
	number("Look", ring|left, a)
	o, a := wheels.Read(b, -1, nil)
	number("Read", o.Most+len(o.Wheels)+len(o.Start)+len(o.Rings), a)
	o, a = wheels.Tight(b, -1)
	number("Tight", o.Most+len(o.Wheels)+len(o.Start)+len(o.Rings), a)
	l, a = wheels.Next(b, nil)
	number("Next", len(l), a)
	text, a := wheels.Print(b)
	number("Print", len(text), a)
	return bad
}

// P0.2: the bell of a book comes before all others, and with nothing else, in each function.
func TestBellsComeAlone(t *testing.T) {
	for _, x := range bellCases() {
		if x.want == api.Fine {
			continue
		}
		b := book(t, textA)
		x.change(&b)
		if bad := notAlone(b, x.want); len(bad) > 0 {
			t.Errorf("%s: %v", x.name, bad)
		}
	}
}

// P0.2: where there is no history, Odds comes behind what is wrong with the other arguments, and with nothing else.
func TestBellsWithoutHistory(t *testing.T) {
	b := book(t, textC)
	check := func(name string, empty bool, s, want api.Bell) {
		if !empty || s != want {
			t.Errorf("%s: bell %d, want %d; nothing else: %v", name, s, want, empty)
		}
	}
	l, s := wheels.Shows(b, 2)
	check("Shows", len(l) == 0, s, api.Odds)
	l, s = wheels.Shows(b, 3)
	check("Shows", len(l) == 0, s, api.Bound)
	sure, s := wheels.Slipped(b, 1, 0)
	check("Slipped", sure == 0, s, api.Odds)
	sure, s = wheels.Slipped(b, 1, 3)
	check("Slipped", sure == 0, s, api.Missing)
	l, s = wheels.Errors(b)
	check("Errors", len(l) == 0, s, api.Odds)
	slips, s := wheels.Fewest(b)
	check("Fewest", len(slips) == 0, s, api.Odds)
	ring, left, s := wheels.Look(b)
	check("Look", ring == 0 && left == 0, s, api.Odds)
	l, s = wheels.Next(b, []int{0, 0, 9})
	check("Next", len(l) == 0, s, api.Odds)
	l, s = wheels.Next(b, []int{0, 0, 10})
	check("Next", len(l) == 0, s, api.Bound)
	l, s = wheels.Next(b, []int{0, 0})
	check("Next", len(l) == 0, s, api.Count)
	o, s := wheels.Read(b, 0, []int{11, 19, 0})
	check("Read", len(o.Wheels) == 0, s, api.Odds)
	o, s = wheels.Tight(b, 1)
	check("Tight", len(o.Wheels) == 0, s, api.Odds)
	o, s = wheels.Tight(b, 3)
	check("Tight", len(o.Wheels) == 0, s, api.Missing)
}
