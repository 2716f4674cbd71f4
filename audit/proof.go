package audit

import (
	"iter"
	"slices"

	"nosale/api"
	"nosale/build"
	"nosale/change"
	"nosale/checks"
	"nosale/evening"
	"nosale/lists"
	"nosale/sales"
	"nosale/spans"
	"nosale/stock"
	"nosale/tour"
	"nosale/wheels"
)

// unread stands for a digit that was not read, or is not known.
const unread = -1

// sum returns what some numbers are together.
func sum(list []int) int {
	all := 0
	for _, n := range list {
		all += n
	}
	return all
}

// collected returns the lists that are yielded, each in memory of its own.
func collected(all iter.Seq[[]int]) [][]int {
	var some [][]int
	for list := range all {
		some = append(some, slices.Clone(list))
	}
	return some
}

// some tells whether something is so of any of some lists.
func some(all [][]int, is func(list []int) bool) bool {
	return len(lists.Those(len(all), func(i int) bool { return is(all[i]) })) > 0
}

// showSlips tells whether rings and wheels, one after the other, are the slips of a history.
func (q question) showSlips(b api.AuditBook, proof []int) bool {
	slid, ok := slidBy(len(b.Wheels.Rings), proof)
	if !ok || len(proof)/2 > min(q.A, b.Wheels.Most) {
		return false
	}
	starts := collected(spans.Filled(len(b.Wheels.Wheels), func(wheel int) api.Span { return startOf(b.Wheels, wheel) }))
	return some(starts, func(start []int) bool { return canSlide(b.Wheels, start, slid) })
}

// slidBy returns for each of so many rings the wheels that slipped, if a list tells of rings and wheels, one after the other, ring by ring.
func slidBy(rings int, proof []int) (slid [][]int, ok bool) {
	slid = make([][]int, rings)
	before := 0
	for slip := range slices.Chunk(proof, 2) {
		if len(slip) < 2 || !spans.Within(slip[0], before, rings-1) {
			return nil, false
		}
		before = slip[0]
		slid[before] = append(slid[before], slip[1])
	}
	return slid, true
}

// startOf returns the span of what a wheel can have shown at first.
func startOf(b api.WheelsBook, wheel int) api.Span {
	if b.Start[wheel] == unread {
		return api.Span{High: b.Wheels[wheel].Base - 1}
	}
	return spans.One(b.Start[wheel])
}

// canSlide tells whether the wheels, from what they show at first on, show what was read if the carries of some wheels slip in each ring, and no others.
func canSlide(b api.WheelsBook, shown []int, slid [][]int) bool {
	for i, r := range b.Rings {
		next, l := wheels.Slide(b, shown, r.Keys, slid[i])
		if l != api.Fine {
			return false
		}
		for wheel, digit := range r.Read {
			if digit != unread && digit != next[wheel] {
				return false
			}
		}
		shown = next
	}
	return true
}

// showFloat tells whether no sale is refused in any history if these coins are in the drawer, too.
func (q question) showFloat(b api.AuditBook, proof []int) bool {
	most := min(q.A, api.MaxChangeMore)
	if checks.Each(proof, len(b.Drawer.Kinds), most) != api.Fine || sum(proof) > most {
		return false
	}
	drawers := collected(spans.Filled(len(b.Drawer.Drawer), func(kind int) api.Span { return b.Drawer.Drawer[kind] }))
	for _, order := range orders(len(b.Drawer.Sales)) {
		if some(drawers, func(drawer []int) bool { return refuses(b.Drawer, drawer, order, proof) }) {
			return false
		}
	}
	return true
}

// orders returns all orders of so many things.
func orders(things int) [][]int {
	var all [][]int
	for list := range spans.Filled(things, func(int) api.Span { return api.Span{High: things - 1} }) {
		if checks.Once(list, things) == api.Fine {
			all = append(all, slices.Clone(list))
		}
	}
	return all
}

// refuses tells whether the coins of the drawer at first, and an order of the sales, are a history in which a sale would be refused if more coins were in the drawer.
func refuses(b api.ChangeBook, drawer, order, more []int) bool {
	together := slices.Clone(drawer)
	for kind, n := range more {
		together[kind] += n
	}
	refused, _, _ := change.Play(b, together, order)
	if len(refused) == 0 {
		return false
	}
	is, _ := change.IsHistory(b, drawer, order)
	return is
}

// showCheap tells whether parts are a safe machine that costs no more than A.
func (q question) showCheap(b api.AuditBook, proof []int) bool {
	late, l := build.Late(b.Works, proof)
	cost, _ := build.Cost(b.Works, proof)
	return l == api.Fine && late == api.No && cost <= q.A
}

// showWrong tells whether something can have been written with which no sums are false but some, none of them firm, and no more than A.
func (q question) showWrong(b api.AuditBook, proof []int) bool {
	if checks.Rising(proof, len(b.Day.Sums)) != api.Fine || len(proof) > q.A {
		return false
	}
	// if no sum can be false in a book that is left without these sums the others are right
	rest := api.SalesBook{Slips: b.Day.Slips}
	for i, s := range b.Day.Sums {
		if !slices.Contains(proof, i) {
			rest.Sums = append(rest.Sums, s)
		} else if s.Firm {
			return false
		}
	}
	many, _ := sales.Histories(rest)
	return many > 0
}

// showHands tells whether there is a history in which no clerks took something but some, no more than A.
func (q question) showHands(b api.AuditBook, proof []int) bool {
	if checks.Rising(proof, len(b.Evening.Clerks)) != api.Fine || len(proof) > q.A {
		return false
	}
	rest, l := b.Evening, api.Fine
	for hour, h := range b.Evening.Hours {
		for _, clerk := range h.Staff {
			if slices.Contains(proof, clerk) {
				continue
			}
			if rest, l = evening.Clear(rest, hour, clerk); l != api.Fine {
				return false
			}
		}
	}
	return true
}

// showBlame tells whether something can have happened if some notes, no more than A, are false, and no others.
func (q question) showBlame(b api.AuditBook, proof []int) bool {
	if checks.Rising(proof, len(b.Stock.Moves)) != api.Fine || len(proof) > q.A {
		return false
	}
	// of a note that is false nothing came; once that is said no note is to be false
	rest := b.Stock
	rest.Most, rest.Moves = 0, slices.Clone(rest.Moves)
	for _, move := range proof {
		if rest.Moves[move].Kind != api.StockCame {
			return false
		}
		rest.Moves[move].Many = spans.One(0)
	}
	many, _ := stock.Histories(rest)
	return many > 0
}

// showRound tells whether jobs are a safe round of A jobs, or more.
func (q question) showRound(b api.AuditBook, proof []int) bool {
	safe, l := tour.Safe(b.Tour, proof)
	return l == api.Fine && safe && len(proof) >= q.A
}
