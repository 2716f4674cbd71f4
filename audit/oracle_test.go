package audit_test

import (
	"slices"

	"nosale/api"
	"nosale/build"
	"nosale/change"
	"nosale/dice"
	"nosale/evening"
	"nosale/oracle"
	"nosale/sales"
	"nosale/stock"
	"nosale/strip"
	"nosale/tag"
	"nosale/tour"
	"nosale/wheels"
)

// fieldsOf tells which of A, B, L, Many and S each kind of entries uses.
func fieldsOf(kind api.AuditKind) [5]bool {
	return [...][5]bool{
		{}, {true, false, true, false, false}, {true, true, false, true, false}, {true, false, false, true, false}, {false, false, false, true, true},
		{true, true, false, false, false}, {true, false, false, true, false}, {true, false, false, true, false}, {true, true, false, false, false},
		{true, true, false, true, false}, {true, true, false, false, false}, {true, false, false, true, false}, {true, true, false, true, false}, {true, false, false, true, false},
	}[kind]
}

// doOf returns what becomes of a file by an entry, whatever it corrects.
func doOf(b api.AuditBook, e api.AuditEntry) (api.AuditBook, api.Bell) {
	if e.Kind < 0 || e.Kind > 13 || e.Day < 0 || e.Day > 366 {
		return api.AuditBook{}, api.Bound
	}
	for i, is := range [5]bool{e.A != 0, e.B != 0, len(e.L) > 0, e.Many.Low != 0 || e.Many.High != 0, len(e.S) > 0} {
		if is && !fieldsOf(e.Kind)[i] {
			return api.AuditBook{}, api.Shape
		}
	}
	if (e.Kind == api.AuditSale || e.Kind == api.AuditSign) && e.B != 0 && e.B != 1 {
		return api.AuditBook{}, api.Bound
	}
	var l api.Bell
	switch e.Kind {
	case 1:
		b.Wheels, l = wheels.Read(b.Wheels, e.A, e.L)
	case 2:
		b.Strip, l = strip.Note(b.Strip, api.StripCount{Kind: api.StripKind(e.A), A: e.B, Many: e.Many})
	case 3:
		b.House, l = tag.Learn(b.House, e.A, e.Many)
	case 4:
		b.House, l = tag.Hang(b.House, api.TagTag{Reads: e.S, Price: e.Many})
	case 5:
		b.Drawer, l = change.See(b.Drawer, e.A, e.B == 1)
	case 6:
		b.Drawer, l = change.Note(b.Drawer, api.ChangeCount{Kind: e.A, Many: e.Many})
	case 7:
		b.Works, l = build.Time(b.Works, e.A, e.Many)
	case 8:
		b.Day, l = sales.Sign(b.Day, e.A, e.B == 1)
	case 9:
		b.Day, l = sales.Correct(b.Day, api.SalesSlip{Kind: api.SalesFix, For: e.A, Clerk: e.B, Signed: api.Yes, Amount: e.Many})
	case 10:
		b.Evening, l = evening.Clear(b.Evening, e.A, e.B)
	case 11:
		b.Evening, l = evening.Count(b.Evening, api.EveningCount{After: e.A, Money: e.Many})
	case 12:
		b.Stock, l = stock.Note(b.Stock, api.StockCount{Good: e.A, Day: e.B, Many: e.Many})
	case 13:
		b.Tour, l = tour.Time(b.Tour, e.A, e.Many)
	}
	if l != api.Fine {
		return api.AuditBook{}, l
	}
	return b, api.Fine
}

// partOf returns the part that a kind of entries changes, -1 if it is none.
func partOf(kind api.AuditKind) int {
	return []int{-1, wheelsPart, stripPart, tagPart, tagPart, changePart, changePart, buildPart, salesPart, salesPart, eveningPart, eveningPart, stockPart, tourPart}[kind]
}

// allOf does entries, one after the other, whatever they correct; the bell is the first one.
func allOf(b api.AuditBook, entries []api.AuditEntry) (api.AuditBook, api.Bell) {
	for _, e := range entries {
		var l api.Bell
		if b, l = doOf(b, e); l != api.Fine {
			return api.AuditBook{}, l
		}
	}
	return b, api.Fine
}

// played is the bells of entries, the numbers of those that are in force in the end, in the order of their places, and the file then.
type played struct {
	bells []api.Bell
	force []int
	now   api.AuditBook
}

// playOf plays entries: for each of them, all that would be in force is done from the beginning on.
func playOf(b api.AuditBook, entries []api.AuditEntry) played {
	p := played{now: b}
	firsts := []int{} // the numbers of the entries with For 0 that stand
	for i, e := range entries {
		force := slices.Clone(p.force)
		place := slices.Index(firsts, e.For)
		bell := api.Fine
		switch {
		case i > 0 && e.Day < entries[i-1].Day:
			bell = api.Order
		case e.For == 0:
			force = append(force, i+1)
		case place < 0:
			bell = api.Missing
		default:
			force[place] = i + 1
		}
		if bell == api.Fine {
			var some []api.AuditEntry
			for _, n := range force {
				some = append(some, entries[n-1])
			}
			var now api.AuditBook
			if now, bell = allOf(b, some); bell == api.Fine {
				p.force, p.now = force, now
				if e.For == 0 {
					firsts = append(firsts, i+1)
				}
			}
		}
		p.bells = append(p.bells, bell)
	}
	return p
}

// sealOf is the seal of a text.
func sealOf(text string) int {
	n := 0
	for _, c := range []byte(text) {
		n = (n*31 + int(c)) % 99991
	}
	return n
}

// answerOf returns what is asked, of the functions of the chapters.
func answerOf(b api.AuditBook, q api.AuditAsk) (yes bool, proof []int, l api.Bell) {
	switch q.Kind {
	case api.AuditSlips:
		slips, l2 := wheels.Fewest(b.Wheels)
		for _, s := range slips {
			proof = append(proof, s.Ring, s.Wheel)
		}
		yes, l = len(slips) <= q.A, l2
	case api.AuditWhole:
		sold, found, l2 := strip.Whole(b.Strip)
		for _, s := range sold {
			proof = append(proof, s.Article)
		}
		yes, l = found, l2
	case api.AuditPlain:
		yes, l = tag.Plain(b.House, q.A, q.B)
	case api.AuditFloat:
		coins, found, l2 := change.Float(b.Drawer)
		all := 0
		for _, n := range coins {
			all += n
		}
		yes, proof, l = found && all <= q.A, coins, l2
	case api.AuditCheap:
		machine, cost, l2 := build.Cheapest(b.Works)
		yes, proof, l = l2 == api.Fine && cost <= q.A, machine, l2
		if l2 == api.Short {
			l = api.Fine
		}
	case api.AuditFalse:
		proof, l = sales.Fewest(b.Day)
		yes = len(proof) <= q.A
	case api.AuditHands:
		proof, l = evening.Hands(b.Evening)
		yes = len(proof) <= q.A
	case api.AuditBlame:
		proof, l = stock.Blame(b.Stock)
		yes = len(proof) <= q.A
	case api.AuditRound:
		proof, _, l = tour.Best(b.Tour)
		yes = len(proof) >= q.A
	}
	if l != api.Fine || !yes {
		return false, nil, l
	}
	return true, proof, api.Fine
}

// shows tells whether a list is a proof that the answer is yes, by all that can have happened.
func shows(b api.AuditBook, q api.AuditAsk, proof []int) bool {
	switch q.Kind {
	case api.AuditSlips:
		return len(proof) <= 2*q.A && slipped(b.Wheels, proof)
	case api.AuditFloat:
		return allFrom(proof, 0) && total(proof) <= min(q.A, api.MaxChangeMore) && len(proof) == len(b.Drawer.Kinds) && neverRefused(b.Drawer, proof)
	case api.AuditCheap:
		return isSafe(b.Works, proof) && costOf(b.Works, proof) <= q.A
	case api.AuditFalse:
		return len(proof) <= q.A && isSet(proof, len(b.Day.Sums)) && onlyFalse(b.Day, proof)
	case api.AuditHands:
		return len(proof) <= q.A && isSet(proof, len(b.Evening.Clerks)) && onlyThese(b.Evening, proof)
	case api.AuditBlame:
		return len(proof) <= q.A && isSet(proof, len(b.Stock.Moves)) && onlyLies(b.Stock, proof)
	case api.AuditRound:
		return len(proof) >= q.A && isRound(b.Tour, proof)
	}
	yes, own, _ := answerOf(b, q)
	return yes && slices.Equal(own, proof)
}

// allFrom tells whether no number is below another one.
func allFrom(list []int, low int) bool {
	return !slices.ContainsFunc(list, func(n int) bool { return n < low })
}

func total(list []int) int {
	sum := 0
	for _, n := range list {
		sum += n
	}
	return sum
}

// isSet tells whether a list is ascending indexes of so many things.
func isSet(list []int, things int) bool {
	for i, n := range list {
		if n < 0 || n >= things || i > 0 && n <= list[i-1] {
			return false
		}
	}
	return true
}

// can returns all numbers of a span.
func can(s api.Span) []int { return oracle.UpTo(s.Low, s.High) }

// slipped tells whether a list is rings and wheels of all slips of a history, in order.
func slipped(b api.WheelsBook, proof []int) bool {
	if len(proof)%2 == 1 || len(proof) > 2*b.Most {
		return false
	}
	var starts [][]int
	for i, n := range b.Start {
		starts = append(starts, []int{n})
		if n < 0 {
			starts[i] = oracle.Indexes(b.Wheels[i].Base)
		}
	}
	for _, shown := range oracle.Combined(starts) {
		var slips []int
		right := true
		for ring, r := range b.Rings {
			carry := 0
			for wheel, w := range b.Wheels {
				n := shown[wheel] + r.Keys[wheel] + carry
				shown[wheel], carry = n%w.Base, n/w.Base
				carry = min(carry, 1)
				next := slips
				if carry == 1 && wheel < len(b.Wheels)-1 && w.Kind != api.WheelsTight {
					next = append(slices.Clone(slips), ring, wheel)
				}
				if len(next) > len(slips) && len(next) <= len(proof) && slices.Equal(next, proof[:len(next)]) {
					slips = next
					carry = map[api.WheelsKind]int{api.WheelsDrops: 0, api.WheelsDoubles: 2}[w.Kind]
				}
				right = right && (len(r.Read) == 0 || r.Read[wheel] < 0 || r.Read[wheel] == shown[wheel])
			}
		}
		if right && slices.Equal(slips, proof) {
			return true
		}
	}
	return false
}

// neverRefused tells whether no sale is refused in any history if more coins are there.
func neverRefused(b api.ChangeBook, more []int) bool {
	var drawers [][]int
	for _, s := range b.Drawer {
		drawers = append(drawers, can(s))
	}
	for _, first := range oracle.Combined(drawers) {
		for _, order := range roundsOf(len(b.Sales)) {
			if len(order) < len(b.Sales) || !isPast(b, first, order) {
				continue
			}
			var all []int
			for kind, n := range first {
				all = append(all, n+more[kind])
			}
			if refused, _, _ := change.Play(b, all, order); len(refused) > 0 {
				return false
			}
		}
	}
	return true
}

// isPast tells whether a drawer and an order are a history.
func isPast(b api.ChangeBook, first, order []int) bool {
	for _, f := range b.Firsts {
		if slices.Index(order, f.Before) >= slices.Index(order, f.After) {
			return false
		}
	}
	refused, after, _ := change.Play(b, first, order)
	for i, s := range b.Sales {
		if s.Seen == api.Yes && slices.Contains(refused, i) || s.Seen == api.No && !slices.Contains(refused, i) {
			return false
		}
	}
	for _, c := range b.Counts {
		if !oracle.Has(c.Many, after[c.Kind]) {
			return false
		}
	}
	return true
}

// costOf is what parts cost together.
func costOf(b api.BuildBook, machine []int) int {
	cost := 0
	for _, part := range machine {
		cost += b.Parts[part].Cost
	}
	return cost
}

// isSafe tells whether a list is a machine that is late in no history.
func isSafe(b api.BuildBook, machine []int) bool {
	if len(machine) != b.Places {
		return false
	}
	for place, part := range machine {
		if part < 0 || part >= len(b.Parts) || !slices.Contains(b.Parts[part].Fits, place) {
			return false
		}
		if place > 0 {
			x, y := min(part, machine[place-1]), max(part, machine[place-1])
			if slices.Contains(b.Apart, api.BuildPair{A: x, B: y}) {
				return false
			}
		}
	}
	var times [][]int
	for _, p := range b.Parts {
		times = append(times, can(p.Time))
	}
	for _, t := range oracle.Combined(times) {
		takes := func(m []int) int { return total(oracle.Picked(t, m)) }
		right := !slices.ContainsFunc(b.Trials, func(x api.BuildTrial) bool { return !oracle.Has(x.Took, takes(x.Parts)) })
		if right && takes(machine) > b.Beat {
			return false
		}
	}
	return true
}

// onlyFalse tells whether something can have been written with which no sums are false but some, none of them firm.
func onlyFalse(b api.SalesBook, sums []int) bool {
	var can1 [][]int
	var can2 [][]bool
	for _, s := range b.Slips {
		can1 = append(can1, can(s.Amount))
		if s.Kind == api.SalesFix {
			can2 = append(can2, oracle.Kept([]bool{false, true}, func(is bool) bool { return s.Signed == api.Open || is == (s.Signed == api.Yes) }))
		}
	}
	for _, i := range sums {
		if b.Sums[i].Firm {
			return false
		}
	}
	for _, written := range oracle.Combined(can1) {
		for _, signed := range oracle.Combined(can2) {
			now, wrong, _ := sales.Play(b, written, signed)
			left := slices.Clone(now)
			for i, s := range b.Slips {
				if s.Kind == api.SalesBack {
					left[s.For] -= now[i]
				}
			}
			if allFrom(left, 0) && oracle.Within(wrong, sums) {
				return true
			}
		}
	}
	return false
}

// onlyThese tells whether there is a history in which no clerks took something but some.
func onlyThese(b api.EveningBook, clerks []int) bool {
	var duties []api.EveningTaking
	for hour, h := range b.Hours {
		for _, clerk := range h.Staff {
			if slices.Contains(clerks, clerk) {
				duties = append(duties, api.EveningTaking{Hour: hour, Clerk: clerk})
			}
		}
	}
	for _, some := range oracle.Chosen(duties, b.Most) {
		var amounts [][]api.EveningTaking
		for _, x := range some {
			var each []api.EveningTaking
			for n := range b.Take {
				x.Amount = n + 1
				each = append(each, x)
			}
			amounts = append(amounts, each)
		}
		for _, takings := range oracle.Combined(amounts) {
			for _, slips := range oracle.Chosen(oracle.Indexes(len(b.Wheels)), b.Slips) {
				if is, _ := evening.Agrees(b, takings, slips); is {
					return true
				}
			}
		}
	}
	return false
}

// onlyLies tells whether something can have happened with which just these notes are false.
func onlyLies(b api.StockBook, notes []int) bool {
	for _, i := range notes {
		if b.Moves[i].Kind != api.StockCame {
			return false
		}
	}
	var firsts, moves [][]int
	for _, g := range b.Goods {
		firsts = append(firsts, can(g.First))
	}
	for _, m := range b.Moves {
		moves = append(moves, can(m.Many))
	}
	for _, first := range oracle.Combined(firsts) {
		for _, many := range oracle.Combined(moves) {
			if isTrue(b, first, many, notes) {
				return true
			}
		}
	}
	return false
}

// isTrue tells whether stocks are never below 0, and as they were counted.
func isTrue(b api.StockBook, first, many, lies []int) bool {
	left := slices.Clone(first)
	for day := range b.Days + 1 {
		for i, m := range b.Moves {
			switch {
			case m.Day != day || slices.Contains(lies, i):
			case m.Kind == api.StockCame || m.Kind == api.StockBack:
				left[m.Good] += many[i]
			default:
				left[m.Good] -= many[i]
			}
		}
		wrong := slices.ContainsFunc(b.Counts, func(c api.StockCount) bool { return c.Day == day && !oracle.Has(c.Many, left[c.Good]) })
		if wrong || !allFrom(left, 0) {
			return false
		}
	}
	return true
}

// isRound tells whether a list is a round for which the bag is great enough, and of which no job can end late.
func isRound(b api.TourBook, round []int) bool {
	for i, job := range round {
		if job < 0 || job >= len(b.Jobs) || slices.Contains(round[:i], job) {
			return false
		}
	}
	load, _ := tour.Load(b, round)
	ends, l := tour.Ends(b, round)
	late := false
	for i, s := range ends {
		late = late || s.High > b.Jobs[round[i]].Due
	}
	return l == api.Fine && !late && total(load) <= b.Bag
}

// roundsOf returns all lists of some of so many things, each at most once, in any order.
func roundsOf(n int) [][]int {
	all := [][]int{nil}
	for i := 0; i < len(all); i++ {
		for thing := range n {
			if !slices.Contains(all[i], thing) {
				all = append(all, append(slices.Clone(all[i]), thing))
			}
		}
	}
	return all
}

// tries returns all lists that can be proofs of what is asked, and many that cannot.
func tries(b api.AuditBook, q api.AuditAsk) [][]int {
	switch q.Kind {
	case api.AuditSlips:
		var pairs [][]int
		for ring := range len(b.Wheels.Rings) + 1 {
			for wheel := range len(b.Wheels.Wheels) + 1 {
				pairs = append(pairs, []int{ring, wheel})
			}
		}
		all := [][]int{nil, {0}}
		for _, one := range pairs {
			all = append(all, one)
			for _, two := range pairs {
				all = append(all, slices.Concat(one, two))
			}
		}
		return all
	case api.AuditFloat:
		return oracle.Combined(slices.Repeat([][]int{{0, 1, 2}}, len(b.Drawer.Kinds)))
	case api.AuditCheap:
		return oracle.Combined(slices.Repeat([][]int{oracle.Indexes(len(b.Works.Parts))}, b.Works.Places))
	case api.AuditFalse:
		return oracle.Subsets(len(b.Day.Sums))
	case api.AuditHands:
		return oracle.Subsets(len(b.Evening.Clerks))
	case api.AuditBlame:
		return oracle.Subsets(len(b.Stock.Moves))
	case api.AuditRound:
		return roundsOf(len(b.Tour.Jobs))
	}
	_, own, _ := answerOf(b, q)
	return [][]int{nil, own, {0}, append(slices.Clone(own), 0)}
}

// anyEntry returns an entry that can perhaps be done with a file.
func anyEntry(d *dice.Dice, b api.AuditBook) api.AuditEntry {
	kind := api.AuditKind(d.Roll(14))
	e := api.AuditEntry{Kind: kind}
	if fieldsOf(kind)[0] {
		e.A = d.Roll(4)
	}
	if fieldsOf(kind)[1] {
		e.B = d.Roll(3)
	}
	if fieldsOf(kind)[3] {
		e.Many.Low = d.Roll(4)
		e.Many.High = e.Many.Low + d.Roll(4)
	}
	switch kind {
	case api.AuditRing:
		e.A = d.Roll(2 + len(b.Wheels.Rings)/2)
		for _, w := range b.Wheels.Wheels {
			e.L = append(e.L, max(-1, d.Roll(2*w.Base)-w.Base))
		}
	case api.AuditStrip:
		e.Many.High += d.Roll(2) * 9000
	case api.AuditPrice, api.AuditHang:
		e.Many.High += d.Roll(2) * 999
		e.S = []string{"MA", "T?", "KX", "?", "EE"}[d.Roll(5)]
		if kind == api.AuditPrice {
			e.S = ""
		}
	case api.AuditSale:
		e.A, e.B = d.Roll(3)+d.Roll(2), d.Roll(2)
	case api.AuditSign:
		e.A, e.B = 3-d.Roll(4)/2, d.Roll(4)/3
	case api.AuditFix:
		e.Many = to(10+e.Many.Low, 10+min(e.Many.High, e.Many.Low+2))
	case api.AuditMoney:
		e.Many = to(d.Roll(40), 40+d.Roll(200))
	case api.AuditGoods:
		e.Many.High += 5
	}
	return e
}

// anyJournal returns entries of which each can perhaps be played on a file behind those before it; some correct others, and some are out of order, or wrong.
func anyJournal(d *dice.Dice, b api.AuditBook, many int) []api.AuditEntry {
	var entries []api.AuditEntry
	day := d.Roll(3)
	for i := range many {
		e := anyEntry(d, b)
		switch d.Roll(12) {
		case 0:
			e.Kind = api.AuditKind(d.Roll(16) - 1)
		case 1:
			e = api.AuditEntry{}
		case 2:
			e.S = "x"
		}
		if i > 0 && d.Roll(3) == 0 {
			e.For = 1 + d.Roll(i+1)
		}
		day += d.Roll(3)
		e.Day = day - d.Roll(12)/11
		entries = append(entries, e)
	}
	return entries
}
