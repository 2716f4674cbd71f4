package build_test

import (
	"fmt"
	"slices"
	"strconv"
	"strings"
	"testing"

	"nosale/api"
	"nosale/build"
	"nosale/change"
	"nosale/dice"
	"nosale/strip"
	"nosale/tag"
	"nosale/wheels"
)

// rungOn returns the wheels that a machine moves: each ring carries once, and the carry drops if the machine is late in that turn. All wheels are read in the end.
func rungOn(t *testing.T, late []bool) api.WheelsBook {
	t.Helper()
	b := api.WheelsBook{Most: 2, Wheels: []api.WheelsWheel{{Base: 10, Kind: api.WheelsDrops}, {Base: 10}}, Start: []int{9, 0}}
	shown := b.Start
	for _, is := range late {
		var slips []int
		if is {
			slips = []int{0}
		}
		after, l := wheels.Slide(b, shown, []int{1, 0}, slips)
		if l != api.Fine {
			t.Fatal(l)
		}
		// back to where the wheel carries again
		back, _, l := wheels.Ring(b, after, []int{9, 0})
		if l != api.Fine {
			t.Fatal(l)
		}
		b.Rings = append(b.Rings, api.WheelsRing{Keys: []int{1, 0}}, api.WheelsRing{Keys: []int{9, 0}})
		shown = back
	}
	b.Rings[len(b.Rings)-1].Read = shown
	return b
}

// P0.4, P0.5: a carry that is late slips. What the wheels show of slips is so together with what trials tell of times, and finds what these leave open.
func TestWheelsTell(t *testing.T) {
	d := dice.Dice(18)
	found, slipped := 0, 0
	for range 600 {
		b, real := anyBook(&d, false)
		all := machinesOf(b)
		if len(all) == 0 || len(b.Trials) == api.MaxBuildTrials {
			continue
		}
		machine := all[d.Roll(len(all))]
		late := took(machine, real) > b.Beat
		sure, _ := build.Late(b, machine)
		rung := rungOn(t, []bool{late})
		told, l := wheels.Slipped(rung, 0, 0)
		if told == api.Open || sure != api.Open && sure != told || l != api.Fine {
			t.Fatalf("%+v, %v: Late %v is %d, but a carry of %+v slipped: %d, bell %d", b, real, machine, sure, rung, told, l)
		}
		s := to(0, b.Beat)
		if told == api.Yes {
			s = to(min(b.Beat+1, api.MaxBuildTook), api.MaxBuildTook)
			slipped++
		}
		o, l := build.Try(b, trial(s, machine...))
		if l != api.Fine {
			t.Fatalf("%+v, %v: the wheels tell that %v took %v, bell %d", b, real, machine, s, l)
		}
		noMore(t, b, o)
		for part, time := range real {
			if list, l := build.Times(o, part); !slices.Contains(list, time) || l != api.Fine {
				t.Errorf("%+v, %v: with the wheels Times %d is %v, bell %d", o, real, part, list, l)
			}
		}
		if is, _ := build.Late(o, machine); is != told {
			t.Errorf("%+v: Late %v is %d, but the wheels tell %d", o, machine, is, told)
		}
		if sure == api.Open {
			found++
		}
	}
	if found < 10 || slipped < 50 {
		t.Errorf("the wheels told too little: %d, %d slips", found, slipped)
	}
}

// P0.4, P0.6: wheels that a safe machine moves need no slips, whatever times its parts really have.
func TestSafeWheels(t *testing.T) {
	d := dice.Dice(19)
	many := 0
	for range 300 {
		b, real := anyBook(&d, false)
		machine, l := swiftest(b)
		if l != api.Fine {
			continue
		}
		many++
		late := took(machine, real) > b.Beat
		rung := rungOn(t, []bool{late, late})
		slips, l := wheels.Fewest(rung)
		tight, l2 := wheels.Tight(rung, 0)
		errors, l3 := wheels.Errors(tight)
		if len(slips) > 0 || !slices.Equal(errors, []int{0}) || l+l2+l3 != api.Fine {
			t.Errorf("%+v, %v: %v is safe, but %v slipped, errors %v, bells %d, %d, %d", b, real, machine, slips, errors, l, l2, l3)
		}
	}
	if many < 100 {
		t.Errorf("only %d machines were safe", many)
	}
}

// sold returns the strip on which the parts of a machine were printed, place by place, of which not all can be read; the article of each part has its index. In the end the cost of the machine is the total.
func sold(d *dice.Dice, b api.BuildBook, machine []int) api.StripBook {
	s := api.StripBook{Last: 99, First: 1, Digits: 3, Clerks: 1}
	for part, p := range b.Parts {
		s.Articles = append(s.Articles, api.StripArticle{Dept: part, Price: p.Cost})
	}
	total := 0
	for i, part := range machine {
		total += b.Parts[part].Cost
		e := api.StripItem{Number: "??", Amount: "???", Total: "???", Dept: -1, Clerk: -1}
		if d.Roll(2) == 0 || i == len(machine)-1 {
			e.Total = fmt.Sprintf("%03d", total)
		}
		if d.Roll(3) == 0 {
			e.Dept = part
		}
		s.Items = append(s.Items, e)
	}
	return s
}

// isSold tells whether each part is an article of a strip.
func isSold(b api.BuildBook) bool {
	return len(b.Parts) <= api.MaxStripArticles && !slices.ContainsFunc(b.Parts, func(p api.BuildPart) bool { return p.Cost == 0 })
}

// P0.4, P0.5: the strip on which the parts of a machine were sold tells which one it is, as far as its cost leaves that open.
func TestStripTells(t *testing.T) {
	d := dice.Dice(20)
	found := 0
	for range 1000 {
		b, _ := anyBook(&d, false)
		all := machinesOf(b)
		if !isSold(b) || len(all) == 0 {
			continue
		}
		real := all[d.Roll(len(all))]
		cost, l := build.Cost(b, real)
		s := sold(&d, b, real)
		totals, l2 := strip.Totals(s)
		if !slices.Equal(totals, []int{cost}) || l+l2 != api.Fine {
			t.Fatalf("%+v: %v costs %d, but the strip %+v ends with %v, bells %d, %d", b, real, cost, s, totals, l, l2)
		}
		// of all machines those that the strip allows
		var cheap, can [][]int
		for _, machine := range all {
			if n, _ := build.Cost(b, machine); n == cost {
				cheap = append(cheap, machine)
			}
			sales := make([]api.StripSale, len(machine))
			for i, part := range machine {
				sales[i].Article = part
			}
			if is, l := strip.IsHistory(s, nil, sales); is && l == api.Fine {
				can = append(can, machine)
			}
		}
		if !slices.ContainsFunc(can, func(m []int) bool { return slices.Equal(m, real) }) {
			t.Errorf("%+v: %v was sold, but the strip %+v tells %v", b, real, s, can)
		}
		for _, machine := range can {
			if n, _ := build.Cost(b, machine); n != cost {
				t.Errorf("%+v: the strip %+v tells %v, which costs %d", b, s, machine, n)
			}
		}
		if len(cheap) > 1 && len(can) == 1 {
			found++
		}
	}
	if found < 20 {
		t.Errorf("the strip found only %d machines", found)
	}
}

// withCost is the book B with another cost of its cams.
func withCost(cost int) string { return strings.Replace(textB, "cam 4", "cam "+strconv.Itoa(cost), 1) }

// P0.4, P0.5: a tag leaves open what a cam costs, and so which machine is the cheapest one; coins that were counted settle both.
func TestTagsTell(t *testing.T) {
	h, _, l := tag.Parse("house MAKEPROF?? IT X\nalike EF\ntag E 0..99\n")
	costs, l2 := tag.Prices(h, 0)
	if !slices.Equal(costs, []int{4, 8}) || l+l2 != api.Fine {
		t.Fatal(costs, l, l2)
	}
	cheap := map[int]string{4: "[[0 0 1] 11 0]", 8: "[[2 1 2] 13 0]"}
	var can []int
	for _, cost := range costs {
		machine, n, l := build.Cheapest(parse(t, withCost(cost)))
		if got := show(machine, n, l); got != cheap[cost] {
			t.Errorf("a cam for %d: %s", cost, got)
		}
		// a cam was paid with a ten, and two coins of 1 went
		drawer := api.ChangeBook{
			Kinds:  []int{10, 4, 1},
			Drawer: []api.Span{to(0, 0), to(1, 1), to(2, 3)},
			Sales:  []api.ChangeSale{{Price: cost, Paid: []int{1, 0, 0}, Seen: api.Yes}},
			Counts: []api.ChangeCount{{Kind: 1, Many: to(0, 0)}},
		}
		if n, l := change.Histories(drawer); l != api.Fine {
			t.Fatal(l)
		} else if n > 0 {
			can = append(can, cost)
		}
	}
	if !slices.Equal(can, []int{4}) {
		t.Fatalf("the drawer lets %v", can)
	}
	o, l := tag.Learn(h, 0, to(can[0], can[0]))
	costs, l2 = tag.Prices(o, 0)
	if !slices.Equal(costs, []int{4}) || l+l2 != api.Fine {
		t.Errorf("a cam costs %v, bells %d, %d", costs, l, l2)
	}
	if machine, n, _ := build.Cheapest(parse(t, withCost(costs[0]))); show(machine, n, 0) != cheap[4] {
		t.Errorf("the cheapest machine is %v for %d", machine, n)
	}
}

// P0.5: what a book leaves open is found once the times are known that Ask names, one after the other.
func TestWhatIsMissing(t *testing.T) {
	b := parse(t, textB)
	part, left, _ := build.Ask(b)
	b, l := build.Time(b, part, to(2, 2))
	if n, _ := build.Histories(b); part != 0 || n != left || l != api.Fine {
		t.Errorf("%d: %d histories, %d were to be left, bell %d", part, n, left, l)
	}
	if sure, _ := build.Late(b, []int{0, 0, 0}); sure != api.No {
		t.Errorf("three cams are late: %d", sure)
	}
	if sure, _ := build.Late(b, []int{2, 0, 2}); sure != api.No {
		t.Errorf("two pawls are late: %d", sure)
	}
	part, left, _ = build.Ask(b)
	b, l = build.Time(b, part, to(3, 3))
	if n, _ := build.Histories(b); part != 2 || n != left || n != 1 || l != api.Fine {
		t.Errorf("%d: %d histories, %d were to be left, bell %d", part, n, left, l)
	}
	if n, _ := build.Safe(b); n != 10 {
		t.Errorf("%d machines are safe", n)
	}
	if part, left, _ := build.Ask(b); part != -1 || left != 1 {
		t.Errorf("Ask: %d, %d", part, left)
	}
}
