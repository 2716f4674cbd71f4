package build_test

import (
	"slices"
	"testing"

	"nosale/api"
	"nosale/build"
	"nosale/dice"
	"nosale/oracle"
	"nosale/promises"
)

// noMore tells whether o, in which more is known than in b, makes nothing possible that was not, takes back nothing that was sure, and spoils no choice.
func noMore(t *testing.T, b, o api.BuildBook) {
	t.Helper()
	wrong := func(name string, values ...any) {
		t.Helper()
		t.Errorf("%+v, then %+v: %s %v", b, o, name, values)
	}
	before, _ := build.Histories(b)
	if n, l := build.Histories(o); n < 1 || n > before || l != api.Fine {
		wrong("Histories", before, n, l)
	}
	for part := range b.Parts {
		all, _ := build.Times(b, part)
		if few, _ := build.Times(o, part); len(few) == 0 || !oracle.Within(few, all) {
			wrong("Times", part, all, few)
		}
	}
	for _, machine := range machinesOf(b) {
		was, _ := build.Turns(b, machine)
		if is, _ := build.Turns(o, machine); is.Low < was.Low || is.High > was.High {
			wrong("Turns", machine, was, is)
		}
		sure, _ := build.Late(b, machine)
		if is, _ := build.Late(o, machine); sure != api.Open && is != sure {
			wrong("Late", machine, sure, is)
		}
	}
	was, _ := build.Safe(b)
	if is, _ := build.Safe(o); is < was {
		wrong("Safe", was, is)
	}
	if was == 0 {
		return
	}
	_, different, _ := build.Fewest(b)
	_, cost, _ := build.Cheapest(b)
	_, took, _ := build.Swiftest(b)
	builds, _ := build.Builds(b)
	needs, _ := build.Needs(b)
	_, fewer, l := build.Fewest(o)
	_, cheaper, l2 := build.Cheapest(o)
	_, swifter, l3 := build.Swiftest(o)
	more, l4 := build.Builds(o)
	less, l5 := build.Needs(o)
	if fewer > different || cheaper > cost || swifter.High > took.High || more < builds || !oracle.Within(less, needs) || l+l2+l3+l4+l5 != api.Fine {
		wrong("choices", different, fewer, cost, cheaper, took, swifter, builds, more, needs, less)
	}
}

// P5.10, P0.6: what is learnt of times never adds a history, nor takes a safe machine away.
func TestKnowingMore(t *testing.T) {
	d := dice.Dice(13)
	for range 200 {
		b, real := anyBook(&d, false)
		for part, time := range real {
			o, l := build.Time(b, part, d.Around(time, 1+d.Roll(3), 0, api.MaxBuildTime))
			if l != api.Fine {
				t.Fatalf("%+v: the time %d of %d cannot be known, bell %d", b, time, part, l)
			}
			noMore(t, b, o)
		}
		if all := machinesOf(b); len(all) > 0 && len(b.Trials) < api.MaxBuildTrials {
			machine := all[d.Roll(len(all))]
			o, l := build.Try(b, trial(d.Around(took(machine, real), 1+d.Roll(3), 0, api.MaxBuildTook), machine...))
			if l != api.Fine {
				t.Fatalf("%+v: the trial of %v cannot be known, bell %d", b, machine, l)
			}
			noMore(t, b, o)
		}
	}
}

// P5.10: trials that clash have no history, and no fewer do.
func TestClashAlone(t *testing.T) {
	d := dice.Dice(14)
	clashes := map[int]int{}
	for range 600 {
		b, _ := anyBook(&d, true)
		list, l := build.Clash(b)
		n, _ := build.Histories(b)
		if (len(list) > 0) != (n == 0) || l != api.Fine {
			t.Errorf("%+v: %d histories, but %v clash, bell %d", b, n, list, l)
		}
		clashes[len(list)]++
		promises.Clash(t, show(b), len(b.Trials), list, func(some []int) int {
			n, _ := build.Histories(alone(b, some))
			return n
		})
	}
	if clashes[1] < 20 || clashes[2] < 10 {
		t.Errorf("there were too few clashes: %v", clashes)
	}
}

// P5.10: once the time of the part that Ask names is known no more histories are left than it says.
func TestAsked(t *testing.T) {
	d := dice.Dice(15)
	asked := 0
	for i := range 300 {
		b, _ := anyBook(&d, i%2 == 0)
		all, _ := build.Histories(b)
		part, left, l := build.Ask(b)
		if all == 0 {
			continue
		}
		if l != api.Fine {
			t.Errorf("%+v: bell %d", b, l)
		}
		promises.Asked(t, show(b), all, len(b.Parts), part, left, func(p int) int {
			most := 0
			list, _ := build.Times(b, p)
			for _, n := range list {
				o, l := build.Time(b, p, to(n, n))
				many, l2 := build.Histories(o)
				if l+l2 != api.Fine {
					t.Errorf("%+v: the time %d of %d has the bells %d, %d", b, n, p, l, l2)
				}
				most = max(most, many)
			}
			return most
		})
		if part >= 0 {
			asked++
		}
	}
	if asked < 100 {
		t.Errorf("only %d books were asked", asked)
	}
}

// told writes all that is told of a book, but for indexes, the text and what news make of it.
func told(b api.BuildBook) string {
	machines, l := build.Machines(b)
	why, l2 := build.Why(b)
	histories, l3 := build.Histories(b)
	out := []any{machines, why, histories, l, l2, l3, choices(b)}
	for part := range b.Parts {
		list, l := build.Times(b, part)
		out = append(out, list, l)
	}
	for _, machine := range machinesOf(b) {
		different, l := build.Different(b, machine)
		cost, l2 := build.Cost(b, machine)
		turns, l3 := build.Turns(b, machine)
		late, l4 := build.Late(b, machine)
		out = append(out, different, cost, turns, late, l, l2, l3, l4)
	}
	return show(out...)
}

// P5.11: the order of pairs and of trials changes nothing.
func TestOrderOfTrials(t *testing.T) {
	d := dice.Dice(16)
	for i := range 300 {
		b, _ := anyBook(&d, i%2 == 0)
		o := clone(b)
		for at, from := range d.Shuffled(len(b.Apart)) {
			o.Apart[at] = b.Apart[from]
		}
		order := d.Shuffled(len(b.Trials))
		for at, from := range order {
			o.Trials[at] = b.Trials[from]
		}
		if one, other := told(b), told(o); one != other {
			t.Errorf("%+v: %s, in another order: %s", b, one, other)
		}
		// those that clash have other indexes
		one, _ := build.Clash(b)
		other, l := build.Clash(o)
		if len(one) != len(other) || l != api.Fine {
			t.Errorf("%+v: %v clash, in another order %v, bell %d", b, one, other, l)
		}
		var back []int
		for _, at := range other {
			back = append(back, order[at])
		}
		if n, _ := build.Histories(alone(b, back)); n > 0 && len(back) > 0 {
			t.Errorf("%+v: in another order %v clash, but they have %d histories", b, back, n)
		}
	}
}

// reordered returns a book with its parts in another order: at is the new index of each of them.
func reordered(b api.BuildBook, at []int) api.BuildBook {
	o := clone(b)
	for part, p := range clone(b).Parts {
		o.Parts[at[part]] = p
	}
	for i, p := range b.Apart {
		o.Apart[i] = pair(min(at[p.A], at[p.B]), max(at[p.A], at[p.B]))
	}
	for i, x := range b.Trials {
		o.Trials[i].Parts = moved(x.Parts, at)
	}
	return o
}

// moved returns the new indexes of parts.
func moved(list, at []int) []int {
	var o []int
	for _, part := range list {
		o = append(o, at[part])
	}
	return o
}

// P5.11: the order of parts changes no more than indexes.
func TestOrderOfParts(t *testing.T) {
	d := dice.Dice(17)
	for i := range 300 {
		b, _ := anyBook(&d, i%2 == 0)
		at := d.Shuffled(len(b.Parts))
		o := reordered(b, at)
		numbers := func(b api.BuildBook) string {
			machines, l := build.Machines(b)
			why, l2 := build.Why(b)
			histories, l3 := build.Histories(b)
			clash, l4 := build.Clash(b)
			safe, l5 := build.Safe(b)
			_, different, l6 := build.Fewest(b)
			_, cost, l7 := build.Cheapest(b)
			_, turns, l8 := build.Swiftest(b)
			builds, l9 := build.Builds(b)
			_, left, l10 := build.Ask(b)
			return show(machines, why, histories, clash, safe, different, cost, turns.High, builds, left, l, l2, l3, l4, l5, l6, l7, l8, l9, l10)
		}
		if one, other := numbers(b), numbers(o); one != other {
			t.Errorf("%+v: %s, in another order: %s", b, one, other)
		}
		sorted := func(list []int) []int { slices.Sort(list); return list }
		for place := range b.Places {
			one, _ := build.Can(b, place)
			other, l := build.Can(o, place)
			if !slices.Equal(sorted(moved(one, at)), other) || l != api.Fine {
				t.Errorf("%+v: Can %d: %v, in the order %v: %v, bell %d", b, place, one, at, other, l)
			}
		}
		one, _ := build.Needs(b)
		if other, _ := build.Needs(o); !slices.Equal(sorted(moved(one, at)), other) {
			t.Errorf("%+v: Needs: %v, in the order %v: %v", b, one, at, other)
		}
		for part := range b.Parts {
			one, _ := build.Times(b, part)
			if other, _ := build.Times(o, at[part]); !slices.Equal(one, other) {
				t.Errorf("%+v: Times %d: %v, in the order %v: %v", b, part, one, at, other)
			}
		}
		for _, machine := range machinesOf(b) {
			one, l := build.Turns(b, machine)
			other, l2 := build.Turns(o, moved(machine, at))
			late, _ := build.Late(b, machine)
			if again, _ := build.Late(o, moved(machine, at)); one != other || late != again || l != l2 {
				t.Errorf("%+v: %v: %v, %d, in the order %v: %v, %d", b, machine, one, late, at, other, again)
			}
		}
	}
}
