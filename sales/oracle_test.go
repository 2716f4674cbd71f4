package sales_test

import (
	"cmp"
	"slices"

	"nosale/api"
	"nosale/dice"
	"nosale/oracle"
)

// The oracle goes through all that can have been written, one by one; it calls nothing of the package.

// past is what was written on each slip, which slips are signed, the amounts now, and the sums that are false, ascending.
type past struct {
	numbers    []int
	signed     []bool
	now, wrong []int
}

// of returns whether each fix is signed, in the order of the fixes.
func (p past) of(b api.SalesBook) []bool {
	var list []bool
	for i, s := range b.Slips {
		if s.Kind == api.SalesFix {
			list = append(list, p.signed[i])
		}
	}
	return list
}

// sureOfBool returns Yes or No.
func sureOfBool(is bool) api.Sure {
	if is {
		return api.Yes
	}
	return api.No
}

// nowOf returns the amount of a slip now.
func nowOf(b api.SalesBook, numbers []int, signed []bool, slip int) int {
	if b.Slips[slip].Kind == api.SalesFix {
		return 0
	}
	for i := len(b.Slips) - 1; i > slip; i-- {
		if s := b.Slips[i]; s.Kind == api.SalesFix && s.For == slip && signed[i] {
			return numbers[i]
		}
	}
	return numbers[slip]
}

// sumOf returns what the slips amount to, with these amounts.
func sumOf(b api.SalesBook, kind api.SalesSumKind, a int, now []int) int {
	total := 0
	for i, s := range b.Slips {
		sold, credit, given, back, paid := 0, 0, 0, 0, 0
		switch s.Kind {
		case api.SalesSold:
			sold = now[i]
		case api.SalesCredit:
			credit = now[i]
		case api.SalesGiven:
			given = now[i]
		case api.SalesBack:
			back = now[i]
		case api.SalesPaid:
			paid = now[i]
		}
		switch {
		case kind == api.SalesCash:
			total += sold + paid - back
		case kind == api.SalesDept && s.Dept == a:
			total += sold + credit + given - back
		case kind == api.SalesClerk && s.Clerk == a:
			total += sold + credit - back
		case kind == api.SalesDebt:
			total += credit - paid
		case kind == api.SalesGifts:
			total += given
		}
	}
	return total
}

// played returns what becomes of what was written.
func played(b api.SalesBook, numbers []int, signed []bool) past {
	p := past{numbers: numbers, signed: signed}
	for i := range b.Slips {
		p.now = append(p.now, nowOf(b, numbers, signed, i))
	}
	for i, s := range b.Sums {
		if n := sumOf(b, s.Kind, s.A, p.now); n < s.Many.Low || n > s.Many.High {
			p.wrong = append(p.wrong, i)
		}
	}
	return p
}

// isThere tells whether no more is taken back than there was.
func isThere(b api.SalesBook, p past) bool {
	for i, n := range p.now {
		back := 0
		for j, s := range b.Slips {
			if s.Kind == api.SalesBack && s.For == i {
				back += p.now[j]
			}
		}
		if back > n {
			return false
		}
	}
	return true
}

// isFirm tells whether a sum that is false is firm.
func isFirm(b api.SalesBook, p past) bool {
	return slices.ContainsFunc(p.wrong, func(i int) bool { return b.Sums[i].Firm })
}

// agrees tells whether something is a history of a book.
func agrees(b api.SalesBook, p past) bool {
	for i, s := range b.Slips {
		if p.numbers[i] < s.Amount.Low || p.numbers[i] > s.Amount.High {
			return false
		}
		if s.Kind == api.SalesFix && s.Signed != api.Open && s.Signed != sureOfBool(p.signed[i]) {
			return false
		}
	}
	return isThere(b, p) && len(p.wrong) <= b.Most && !isFirm(b, p)
}

// plays returns all that can have been written, of the numbers on the slips, whether what is known of it is so or not.
func plays(b api.SalesBook) []past {
	var amounts [][]int
	var signs [][]bool
	for _, s := range b.Slips {
		var list []int
		for n := s.Amount.Low; n <= s.Amount.High; n++ {
			list = append(list, n)
		}
		amounts = append(amounts, list)
		if s.Kind == api.SalesFix {
			signs = append(signs, []bool{false, true})
		} else {
			signs = append(signs, []bool{false})
		}
	}
	var all []past
	for _, signed := range oracle.Combined(signs) {
		for _, numbers := range oracle.Combined(amounts) {
			all = append(all, played(b, numbers, signed))
		}
	}
	return all
}

// pasts returns all histories of a book.
func pasts(b api.SalesBook) []past {
	return oracle.Kept(plays(b), func(p past) bool { return agrees(b, p) })
}

// spanOf returns the span of what something amounts to.
func spanOf(b api.SalesBook, all []past, kind api.SalesSumKind, a int) api.Span {
	return oracle.Span(all, func(p past) int { return sumOf(b, kind, a, p.now) })
}

// fewestOf returns the fewest sums that are false in anything that can have been written, and whether there is such a list.
func fewestOf(b api.SalesBook) (sums []int, found bool) {
	loose := clone(b)
	loose.Most = len(b.Sums)
	for _, p := range pasts(loose) {
		if !found || cmp.Or(cmp.Compare(len(p.wrong), len(sums)), slices.Compare(p.wrong, sums)) < 0 {
			sums, found = p.wrong, true
		}
	}
	return sums, found
}

// askOf returns the slip to ask about, and how many histories are left at most.
func askOf(b api.SalesBook, all []past) (slip, left int) {
	return oracle.Ask(all, len(b.Slips), func(p past, slip int) int { return p.now[slip] })
}

// things returns the kinds and the A of all sums.
func things() []api.SalesSum {
	var list []api.SalesSum
	for kind, top := range []int{api.SalesCash: 0, api.SalesDept: api.MaxSalesDept, api.SalesClerk: api.MaxSalesClerk, api.SalesDebt: 0, api.SalesGifts: 0} {
		for a := range top + 1 {
			list = append(list, sum(api.SalesSumKind(kind), a, 0, 0))
		}
	}
	return list
}

// earlier returns the earlier slips of which something is so.
func earlier(b api.SalesBook, is func(s api.SalesSlip) bool) []int {
	var list []int
	for i, s := range b.Slips {
		if is(s) {
			list = append(list, i)
		}
	}
	return list
}

// about returns the slips that one of a kind can be about.
func about(b api.SalesBook, kind api.SalesKind) []int {
	if kind == api.SalesBack {
		return earlier(b, func(s api.SalesSlip) bool { return s.Kind == api.SalesSold || s.Kind == api.SalesCredit })
	}
	if len(earlier(b, func(s api.SalesSlip) bool { return s.Kind == api.SalesFix })) == api.MaxSalesFixes {
		return nil
	}
	return earlier(b, func(s api.SalesSlip) bool { return s.Kind != api.SalesFix })
}

// anySlip returns a slip that can be the next one of a book, and what is written on it.
func anySlip(d *dice.Dice, b api.SalesBook, top int) (api.SalesSlip, int) {
	s := api.SalesSlip{Kind: api.SalesKind(d.Roll(6)), Clerk: d.Roll(api.MaxSalesClerk + 1), For: -1}
	if s.Kind == api.SalesBack || s.Kind == api.SalesFix {
		if list := about(b, s.Kind); len(list) > 0 {
			s.For = list[d.Roll(len(list))]
		} else {
			s.Kind = api.SalesSold
		}
	}
	if s.Kind != api.SalesPaid && s.Kind != api.SalesFix {
		s.Dept = d.Roll(api.MaxSalesDept + 1)
	}
	n := d.Roll(top + 1)
	if s.Kind == api.SalesBack {
		n = d.Roll(n + 1)
	}
	s.Amount = d.Around(n, api.MaxSalesWide, 0, api.MaxSalesAmount)
	return s, n
}

// anySlips returns a book without sums, and what really was written on its slips.
func anySlips(d *dice.Dice) (api.SalesBook, past) {
	var b api.SalesBook
	top := []int{5, 30, api.MaxSalesAmount}[d.Roll(3)]
	var numbers []int
	var signed []bool
	for range d.Roll(api.MaxSalesSlips + 1) {
		s, n := anySlip(d, b, top)
		is := s.Kind == api.SalesFix && d.Roll(2) == 0
		if s.Kind == api.SalesFix && d.Roll(2) == 0 {
			s.Signed = sureOfBool(is)
		}
		b.Slips, numbers, signed = append(b.Slips, s), append(numbers, n), append(signed, is)
	}
	return b, played(b, numbers, signed)
}

// anySum returns a sum that says about what something amounts to.
func anySum(d *dice.Dice, b api.SalesBook, p past, wide int) api.SalesSum {
	all := things()
	s := all[d.Roll(len(all))]
	if len(b.Slips) > 0 && d.Roll(2) == 0 {
		// one that a slip counts in
		of := b.Slips[d.Roll(len(b.Slips))]
		s = []api.SalesSum{sum(api.SalesDept, of.Dept, 0, 0), sum(api.SalesClerk, of.Clerk, 0, 0)}[d.Roll(2)]
	}
	s.Many = d.Around(sumOf(b, s.Kind, s.A, p.now), wide, -api.MaxSalesSum, api.MaxSalesSum)
	return s
}

// anyBook returns a book without a bell, and what really was written; if lies is true, what the book says can be false.
func anyBook(d *dice.Dice, lies bool) (api.SalesBook, past) {
	b, real := anySlips(d)
	for !lies && !isThere(b, real) {
		b, real = anySlips(d)
	}
	b.Most = d.Roll(api.MaxSalesMost + 1)
	wrong := 0
	for range d.Roll(api.MaxSalesSums + 1) {
		s := anySum(d, b, real, 1+d.Roll(4))
		if d.Roll(3) == 0 && (lies || wrong < b.Most) {
			shift := 1 + d.Roll(4)
			s.Many = to(s.Many.Low+shift, s.Many.High+shift)
			s.Firm = lies && d.Roll(4) == 0
			wrong++
		} else {
			s.Firm = d.Roll(3) == 0
		}
		b.Sums = append(b.Sums, s)
	}
	return b, played(b, real.numbers, real.signed)
}
