package sales

import (
	"nosale/api"
	"nosale/checks"
	"nosale/spans"
)

// aboutNone stands for the slip that a slip is about if it is about none.
const aboutNone = -1

// book is a book that can have a bell.
type book struct{ api.SalesBook }

// bell returns the first bell of the book; each check relies on those before it.
func (b book) bell() api.Bell {
	return checks.InTurn(b.checkMost, b.checkSlips, b.checkFixes, b.checkSums)
}

// checkMost returns the bell of how many sums can be false.
func (b book) checkMost() api.Bell {
	if !spans.Within(b.Most, 0, api.MaxSalesMost) {
		return api.Bound
	}
	return api.Fine
}

// checkSlips returns the first bell of the slips.
func (b book) checkSlips() api.Bell {
	if len(b.Slips) > api.MaxSalesSlips {
		return api.Count
	}
	for i := range b.Slips {
		if l := b.checkSlip(i); l != api.Fine {
			return l
		}
	}
	return api.Fine
}

// checkSlip returns the bell of a slip.
func (b book) checkSlip(i int) api.Bell {
	s := b.Slips[i]
	if !spans.Within(int(s.Kind), int(api.SalesSold), int(api.SalesFix)) {
		return api.Bound
	}
	if !spans.Within(s.Dept, 0, slipKinds()[s.Kind].top) || !spans.Within(s.Clerk, 0, api.MaxSalesClerk) {
		return api.Bound
	}
	if l := b.checkFor(i); l != api.Fine {
		return l
	}
	if !spans.IsFrom(s.Amount, 0, api.MaxSalesAmount) || spans.Many(s.Amount) > api.MaxSalesWide {
		return api.Bound
	}
	if !spans.Within(int(s.Signed), int(api.Open), int(api.No)) || s.Kind != api.SalesFix && s.Signed != api.Open {
		return api.Bound
	}
	return api.Fine
}

// checkFor returns the bell of the slip that a slip is about.
func (b book) checkFor(i int) api.Bell {
	s := b.Slips[i]
	canBe := slipKinds()[s.Kind].about
	if canBe == nil {
		if s.For != aboutNone {
			return api.Bound
		}
		return api.Fine
	}
	if !spans.Within(s.For, 0, i-1) {
		return api.Missing
	}
	if !canBe(b.Slips[s.For].Kind) {
		return api.Order
	}
	return api.Fine
}

// checkFixes returns the bell of how many fixes there are.
func (b book) checkFixes() api.Bell {
	if len(b.fixes()) > api.MaxSalesFixes {
		return api.Count
	}
	return api.Fine
}

// checkSums returns the first bell of the sums.
func (b book) checkSums() api.Bell {
	if len(b.Sums) > api.MaxSalesSums {
		return api.Count
	}
	for _, s := range b.Sums {
		if !isThing(s.Kind, s.A) || !spans.IsFrom(s.Many, -api.MaxSalesSum, api.MaxSalesSum) {
			return api.Bound
		}
	}
	return api.Fine
}

// checkWritten returns the bell of what was written on each slip, and of whether each fix is signed.
func (b book) checkWritten(numbers []int, signed []bool) api.Bell {
	if l := checks.Each(numbers, len(b.Slips), api.MaxSalesAmount); l != api.Fine {
		return l
	}
	if len(signed) != len(b.fixes()) {
		return api.Count
	}
	return api.Fine
}

// isThing tells whether there are sums of a kind with this A.
func isThing(kind api.SalesSumKind, a int) bool {
	return spans.Within(int(kind), int(api.SalesCash), int(api.SalesGifts)) && spans.Within(a, 0, sumKinds()[kind].top)
}

// fixes returns the slips that are fixes, ascending.
func (b book) fixes() []int {
	var list []int
	for i, s := range b.Slips {
		if s.Kind == api.SalesFix {
			list = append(list, i)
		}
	}
	return list
}

// hasSlip tells whether a number is the index of a slip.
func (b book) hasSlip(slip int) bool { return spans.Within(slip, 0, len(b.Slips)-1) }

// hasFix tells whether a number is the index of a fix.
func (b book) hasFix(slip int) bool {
	return b.hasSlip(slip) && b.Slips[slip].Kind == api.SalesFix
}

// hasSum tells whether a number is the index of a sum.
func (b book) hasSum(sum int) bool { return spans.Within(sum, 0, len(b.Sums)-1) }
