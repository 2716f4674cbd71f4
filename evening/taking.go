package evening

import (
	"cmp"
	"slices"

	"nosale/api"
	"nosale/checks"
	"nosale/lists"
	"nosale/spans"
)

// takings returns what was taken, taking by taking.
func (c checked) takings(h history) []api.EveningTaking {
	var list []api.EveningTaking
	for i, d := range c.duties {
		if h.taken[i] > 0 {
			list = append(list, api.EveningTaking{Hour: d.hour, Clerk: d.clerk, Amount: h.taken[i]})
		}
	}
	return list
}

// compareTakings compares two lists by how many takings they have, then by their money, then from their beginning on.
func compareTakings(a, b []api.EveningTaking) int {
	return cmp.Or(cmp.Compare(len(a), len(b)), cmp.Compare(moneyOf(a), moneyOf(b)), slices.CompareFunc(a, b, compareTaking))
}

// compareTaking compares two takings by their hours, then by their clerks, then by their amounts.
func compareTaking(a, b api.EveningTaking) int {
	return cmp.Or(cmp.Compare(a.Hour, b.Hour), cmp.Compare(a.Clerk, b.Clerk), cmp.Compare(a.Amount, b.Amount))
}

// moneyOf returns the money of takings.
func moneyOf(list []api.EveningTaking) int {
	sum := 0
	for _, t := range list {
		sum += t.Amount
	}
	return sum
}

// fewest returns the fewest takings of some histories, of several those with the least money, of several of these the least list.
func (c checked) fewest(all []history) []api.EveningTaking {
	var several [][]api.EveningTaking
	for _, h := range all {
		several = append(several, c.takings(h))
	}
	least, _ := lists.Least(compareTakings, several...)
	return least
}

// dutyOf returns the index of the duty of a taking, -1 if it is of none.
func (c checked) dutyOf(t api.EveningTaking) int {
	return slices.Index(c.duties, duty{t.Hour, t.Clerk})
}

// checkPast returns the bell of takings, of which each is to be of a duty behind that of the one before it, and of slips.
func (c checked) checkPast(takings []api.EveningTaking, slips []int) api.Bell {
	var list []int
	for _, t := range takings {
		list = append(list, c.dutyOf(t))
	}
	if l := checks.Rising(list, len(c.duties)); l != api.Fine {
		return l
	}
	return checks.Rising(slips, len(c.Wheels))
}

// isHistory tells whether takings and slips that were checked are a history.
func (c checked) isHistory(takings []api.EveningTaking, slips []int) bool {
	var asked history
	for _, t := range takings {
		// 0 would stand for no taking at all.
		if !spans.Within(t.Amount, 1, c.Take) {
			return false
		}
		asked.taken[c.dutyOf(t)] = t.Amount
	}
	for _, s := range slips {
		asked.slipped |= 1 << s
	}
	for h := range c.histories() {
		if h.taken == asked.taken && h.slipped == asked.slipped {
			return true
		}
	}
	return false
}
