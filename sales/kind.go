package sales

import "nosale/api"

// manyKinds is how many kinds of slips there are.
const manyKinds = 6

// slipKind is a kind of slips: its word, the greatest department, and whether a slip of the kind can be about one of another kind; nil if it is about none.
type slipKind struct {
	word  string
	top   int
	about func(other api.SalesKind) bool
}

// slipKinds returns all kinds of slips.
func slipKinds() [manyKinds]slipKind {
	return [manyKinds]slipKind{
		api.SalesSold:   {"sold", api.MaxSalesDept, nil},
		api.SalesCredit: {"credit", api.MaxSalesDept, nil},
		api.SalesGiven:  {"given", api.MaxSalesDept, nil},
		api.SalesBack:   {"back", api.MaxSalesDept, isBought},
		api.SalesPaid:   {"paid", 0, nil},
		api.SalesFix:    {"fix", 0, isNoFix},
	}
}

// isBought tells whether the goods of a kind of slips were sold for money, or are owed.
func isBought(k api.SalesKind) bool { return k == api.SalesSold || k == api.SalesCredit }

// isNoFix tells whether slips of a kind have an amount of their own.
func isNoFix(k api.SalesKind) bool { return k != api.SalesFix }

// sumKind is a kind of sums: its word, the greatest A, how often the amount of a slip of each kind counts, and the A of the sums in which a slip counts.
type sumKind struct {
	word  string
	top   int
	times [manyKinds]int
	of    func(s api.SalesSlip) int
}

// sumKinds returns all kinds of sums.
func sumKinds() [5]sumKind {
	return [5]sumKind{
		api.SalesCash:  {"cash", 0, [manyKinds]int{api.SalesSold: 1, api.SalesPaid: 1, api.SalesBack: -1}, ofAll},
		api.SalesDept:  {"dept", api.MaxSalesDept, [manyKinds]int{api.SalesSold: 1, api.SalesCredit: 1, api.SalesGiven: 1, api.SalesBack: -1}, ofDept},
		api.SalesClerk: {"clerk", api.MaxSalesClerk, [manyKinds]int{api.SalesSold: 1, api.SalesCredit: 1, api.SalesBack: -1}, ofClerk},
		api.SalesDebt:  {"debt", 0, [manyKinds]int{api.SalesCredit: 1, api.SalesPaid: -1}, ofAll},
		api.SalesGifts: {"gifts", 0, [manyKinds]int{api.SalesGiven: 1}, ofAll},
	}
}

func ofAll(s api.SalesSlip) int   { return 0 }
func ofDept(s api.SalesSlip) int  { return s.Dept }
func ofClerk(s api.SalesSlip) int { return s.Clerk }

// shares is how often the amount of each slip counts in a sum.
type shares [api.MaxSalesSlips]int

// shares returns how often the amount of each slip counts in the sums of a kind with this A.
func (b book) shares(kind api.SalesSumKind, a int) shares {
	var all shares
	k := sumKinds()[kind]
	for i, s := range b.Slips {
		if k.of(s) == a {
			all[i] = k.times[s.Kind]
		}
	}
	return all
}

// total returns the sum of some amounts.
func (s shares) total(now amounts) int {
	sum := 0
	for i, times := range s {
		sum += times * now[i]
	}
	return sum
}
