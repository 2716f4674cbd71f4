package stock_test

import (
	"testing"

	"nosale/api"
	"nosale/stock"
)

// P8.1, P8.2, P8.3: the chapter's examples, each row of its table.
func TestExamples(t *testing.T) {
	b := parse(t, textT)
	is := func(name string, want string, got ...any) {
		t.Helper()
		if s := show(got...); s != want {
			t.Errorf("%s: %s, want %s", name, s, want)
		}
	}
	left, low, l := stock.Play(b, []int{3, 5}, []int{4, 2, 0, 10}, []int{3})
	many, l2 := stock.Histories(b)
	is("Play, Histories", "[[5 5] [3 5] 4 0 0]", left, low, many, l, l2)
	tea, l := stock.Left(b, 0, 10)
	early, l2 := stock.Left(b, 1, 0)
	rice, l3 := stock.Left(b, 1, 10)
	is("Left", "[[4 5] [5 6] [5] 0 0 0]", tea, early, rice, l, l2, l3)
	sold, l := stock.Numbers(b, 1)
	came, l2 := stock.Numbers(b, 3)
	first, l3 := stock.False(b, 0)
	last, l4 := stock.False(b, 3)
	is("Numbers, False", show([]int{2, 3}, []int{0}, api.No, api.Yes, 0, 0, 0, 0), sold, came, first, last, l, l2, l3, l4)
	lost, l := stock.Lost(b, 1, 1, 10)
	worth, l2 := stock.Worth(b, 10)
	lasts, l3 := stock.Lasts(b, 0, 2)
	is("Lost, Worth, Lasts", show(to(0, 1), to(30, 35), to(2, 2), 0, 0, 0), lost, worth, lasts, l, l2, l3)
	packs, cost, l := stock.Buy(b, []int{2, 3}, 4)
	blame, l2 := stock.Blame(b)
	good, rest, l3 := stock.Ask(b)
	is("Buy, Blame, Ask", "[[1 1] 40 [3] 0 2 0 0 0]", packs, cost, blame, good, rest, l, l2, l3)
	clash, l := stock.Clash(parse(t, textOdd))
	told, l2 := stock.Tell(b, 2, to(1, 1))
	many, _ = stock.Histories(told)
	is("Clash, Tell", "[[1] 2 0 0]", clash, many, l, l2)
	_, l = stock.Enter(b, move(api.StockSold, 1, 9, 3, 3))
	noted, l2 := stock.Note(b, count(1, 0, 6, 6))
	many, _ = stock.Histories(noted)
	is("Enter, Note", show(api.Odds, 2, api.Fine), l, many, l2)
	text, l := stock.Print(b)
	is("Print", show(textT, api.Fine), text, l)
}
