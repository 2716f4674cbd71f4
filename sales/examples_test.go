package sales_test

import (
	"strings"
	"testing"

	"nosale/api"
	"nosale/sales"
)

// P6.1, P6.2, P6.3: the chapter's examples, each row of its table.
func TestExamples(t *testing.T) {
	b := parse(t, textS)
	is := func(name string, want string, got ...any) {
		t.Helper()
		if s := show(got...); s != want {
			t.Errorf("%s: %s, want %s", name, s, want)
		}
	}
	now, wrong, l := sales.Play(b, []int{21, 10, 5, 30}, []bool{false})
	is("Play, not signed", "[[21 10 5 0] [1] 0]", now, wrong, l)
	now, wrong, l = sales.Play(b, []int{21, 10, 5, 30}, []bool{true})
	is("Play, signed", "[[30 10 5 0] [0 1] 0]", now, wrong, l)
	many, _ := sales.Histories(b)
	first, _ := sales.Amounts(b, 0)
	third, _ := sales.Amounts(b, 2)
	signed, _ := sales.Signed(b, 3)
	is("Histories, Amounts, Signed", show(4, []int{20, 21, 22}, []int{5, 6}, api.No), many, first, third, signed)
	cash, _ := sales.Sum(b, api.SalesCash, 0)
	dept, _ := sales.Sum(b, api.SalesDept, 1)
	debt, _ := sales.Sum(b, api.SalesDebt, 0)
	is("Sum", show(to(15, 16), to(25, 26), to(10, 10)), cash, dept, debt)
	false0, _ := sales.False(b, 0)
	false1, _ := sales.False(b, 1)
	fewest, l := sales.Fewest(b)
	is("False, Fewest", show(api.No, api.Yes, []int{1}, api.Fine), false0, false1, fewest, l)
	slip, left, l := sales.Ask(b)
	told, l2 := sales.Tell(b, 0, to(22, 22))
	many, _ = sales.Histories(told)
	is("Ask, Tell", "[0 2 0 1 0]", slip, left, l, many, l2)
	corrected, l := sales.Correct(b, api.SalesSlip{Kind: api.SalesFix, Clerk: 1, For: 1, Amount: to(12, 12), Signed: api.Yes})
	many, _ = sales.Histories(corrected)
	is("Correct", "[12 0]", many, l)
	_, l = sales.Clean(b)
	unsigned, l2 := sales.Sign(b, 3, false)
	clean, l3 := sales.Clean(unsigned)
	many, _ = sales.Histories(clean)
	is("Clean", show(api.Order, api.Fine, api.Fine, 4), l, l2, l3, many)
	text, _ := sales.Print(clean)
	is("Clean", show(strings.Replace(textS, "slip fix 0 0 0 30 open\n", "", 1)), text)
	_, l = sales.Trust(b, 1)
	trusted, l2 := sales.Trust(b, 0)
	many, _ = sales.Histories(trusted)
	is("Trust", show(api.Odds, api.Fine, 4), l, l2, many)
	text, l = sales.Print(b)
	is("Print", show(textS, api.Fine), text, l)
}
