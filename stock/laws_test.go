package stock_test

import (
	"math"
	"slices"
	"strings"
	"testing"

	"nosale/api"
	"nosale/dice"
	"nosale/oracle"
	"nosale/stock"
)

// P0.1: each function returns, whatever it is called with, and returns the same to several goroutines; it changes nothing.
func TestAlwaysTheSame(t *testing.T) {
	d := dice.Dice(9)
	books := []api.StockBook{{}}
	for _, text := range texts() {
		books = append(books, parse(t, text))
	}
	for i, x := range bellCases() {
		b := parse(t, textT)
		x.change(&b)
		if len(b.Goods)+len(b.Moves)+len(b.Counts) < 1000 && (x.want != api.Fine || i%10 == 0) {
			books = append(books, b)
		}
	}
	for i := range 20 {
		b, _ := anyBook(&d, api.MaxStockMoves, i%2 == 0)
		books = append(books, b)
	}
	layer().AlwaysTheSame(t, report, books...)
}

// P0.1: numbers that are very great or very small, strings of any bytes, and slices that are very long, have a bell.
func TestGarbage(t *testing.T) {
	d := dice.Dice(10)
	odd := []int{math.MinInt, -1000, -1, 0, 0, 1, 1, 2, 3, 5, 9, 99, 100, 999, math.MaxInt}
	pick := func() int { return odd[d.Roll(len(odd))] }
	for range 500 {
		b, _ := anyBook(&d, 4, true)
		if d.Roll(4) == 0 {
			b.Days, b.Most = pick(), pick()
		}
		for range d.Roll(2) {
			b.Goods = append(b.Goods, api.StockGood{Name: []string{"x", "\xff", ""}[d.Roll(3)], Cost: pick(), Pack: pick(), First: to(pick(), pick())})
		}
		for range d.Roll(2) {
			b.Moves = append(b.Moves, move(api.StockKind(pick()), pick(), pick(), pick(), pick()))
		}
		for range d.Roll(2) {
			b.Counts = append(b.Counts, count(pick(), pick(), pick(), pick()))
		}
		report(b)
	}
}

// P0.1: a book of which all is as great as it can be, and open.
func TestGreatBook(t *testing.T) {
	b := api.StockBook{Days: api.MaxStockDays, Most: api.MaxStockMost}
	for i, name := range []string{"a", "b", "c"} {
		b.Goods = append(b.Goods, api.StockGood{Name: name, Cost: api.MaxStockCost, Pack: api.MaxStockPack, First: to(97, 99)})
		b.Moves = append(b.Moves, move(api.StockCame, i, 1, 97, 99))
	}
	for i := range b.Goods {
		b.Moves = append(b.Moves, move(api.StockCame, i, 99, 97, 99))
	}
	many, l := stock.Histories(b)
	// all numbers, and no note, one of six, or a pair of them that is false
	if want := 27 * 729 * (1 + 6 + 15); many != want || l != api.Fine {
		t.Errorf("%d histories, bell %d, want %d", many, l, want)
	}
	worth, l := stock.Worth(b, 99)
	if want := to(7*97*999, 9*99*999); worth != want || l != api.Fine {
		t.Errorf("Worth: %v, bell %d, want %v", worth, l, want)
	}
	packs, cost, l := stock.Buy(b, []int{99, 99, 99}, 99)
	// of one good both notes can be false
	if n := (99*99 - 97 + 19) / 20; !slices.Equal(packs, []int{n, n, n}) || cost != 3*n*20*999 || l != api.Fine {
		t.Errorf("Buy: %v, %d, bell %d", packs, cost, l)
	}
	b.Counts = slices.Repeat([]api.StockCount{count(0, 99, 999, 999)}, api.MaxStockCounts)
	if list, l := stock.Clash(b); !slices.Equal(list, []int{0}) || l != api.Fine {
		t.Errorf("Clash: %v, bell %d", list, l)
	}
	if list, l := stock.Blame(b); len(list) > 0 || l != api.Odds {
		t.Errorf("Blame: %v, bell %d", list, l)
	}
}

// R3: it makes no difference whether a slice is nil or has no elements.
func TestNilOrEmpty(t *testing.T) {
	none := api.StockBook{Days: 3, Goods: []api.StockGood{{Name: "a", Pack: 1, First: to(1, 2)}}}
	empty := clone(none)
	empty.Moves, empty.Counts = []api.StockMove{}, []api.StockCount{}
	if report(empty) != report(none) {
		t.Error("empty slices and none make a difference")
	}
	if l, l2 := stock.CheckBook(api.StockBook{Days: 3}), stock.CheckBook(api.StockBook{Days: 3, Goods: []api.StockGood{}}); l != l2 || l != api.Count {
		t.Errorf("without goods: bells %d, %d", l, l2)
	}
	for _, many := range [][]int{nil, {}} {
		for _, lies := range [][]int{nil, {}} {
			left, low, l := stock.Play(none, []int{1}, many, lies)
			is, l2 := stock.IsHistory(none, []int{1}, many, lies)
			if got := show(left, low, is, l, l2); got != show([]int{1}, []int{1}, true, 0, 0) {
				t.Errorf("nothing happened: %s", got)
			}
		}
	}
}

// spoil changes all that a book has.
func spoil(b api.StockBook) {
	for i := range b.Goods {
		b.Goods[i] = api.StockGood{Name: "x"}
	}
	for i := range b.Moves {
		b.Moves[i].Day = 77
	}
	for i := range b.Counts {
		b.Counts[i].Day = 77
	}
}

// R4: books that are returned share no memory with those that are handed in.
func TestNoSharedMemory(t *testing.T) {
	news := func(b api.StockBook) []api.StockBook {
		noted, l := stock.Note(b, count(1, 0, 6, 6))
		told, l2 := stock.Tell(b, 1, to(2, 2))
		entered, l3 := stock.Enter(b, move(api.StockBack, 0, 10, 0, 0))
		if l+l2+l3 != api.Fine {
			t.Fatal(l, l2, l3)
		}
		return []api.StockBook{noted, told, entered}
	}
	// room behind the elements must not be written to
	b := parse(t, textT)
	b.Goods = append(make([]api.StockGood, 0, 9), b.Goods...)
	b.Moves = append(make([]api.StockMove, 0, 9), b.Moves...)
	b.Counts = append(make([]api.StockCount, 0, 9), b.Counts...)
	moves, counts := b.Moves[:5], b.Counts[:3]
	for _, o := range news(b) {
		spoil(o)
	}
	if text, _ := stock.Print(b); text != textT || moves[4] != (api.StockMove{}) || counts[2] != (api.StockCount{}) {
		t.Errorf("a result shares memory with the book: %q, %v, %v", text, moves, counts)
	}
	all := news(b)
	spoil(b)
	for i, want := range []string{textT + "count 1 0 6\n", with("2..3", "2"), with("count 0", "move back 0 10 0\ncount 0")} {
		if text, _ := stock.Print(all[i]); text != want {
			t.Errorf("the book shares memory with a result: %q", text)
		}
	}
}

// R4: lists that are handed in stay as they were, and no two lists of a result share memory.
func TestNoSharedLists(t *testing.T) {
	b := parse(t, textT)
	first, many, lies, rates := []int{3, 5}, []int{4, 2, 0, 10}, []int{3}, []int{2, 3}
	left, low, l := stock.Play(b, first, many, lies)
	_, l2 := stock.IsHistory(b, first, many, lies)
	packs, _, l3 := stock.Buy(b, rates, 4)
	if show(first, many, lies, rates, l, l2, l3) != "[[3 5] [4 2 0 10] [3] [2 3] 0 0 0]" {
		t.Error(first, many, lies, rates, l, l2, l3)
	}
	_ = append(left[:0], 77, 77)
	_ = append(packs[:0], 77, 77)
	if show(first, low, rates) != "[[3 5] [3 5] [2 3]]" {
		t.Error(first, low, rates)
	}
}

// holds tells whether what really happened is a history of a book, and all that is told of it is so.
func holds(t *testing.T, b api.StockBook, p past) {
	t.Helper()
	if is, l := stock.IsHistory(b, p.first, p.many, p.lies); !is || l != api.Fine {
		t.Fatalf("%+v: what happened is no history: %+v: %v, bell %d", b, p, is, l)
	}
	wrong := func(name string, i int, told any, l api.Bell) {
		t.Helper()
		t.Errorf("%+v, %+v: %s %d is %v, bell %d", b, p, name, i, told, l)
	}
	for good := range b.Goods {
		for day := range b.Days + 1 {
			if list, l := stock.Left(b, good, day); !slices.Contains(list, stockOf(b, p, good, day)) || l != api.Fine {
				wrong("Left", good, list, l)
			}
		}
		if s, l := stock.Lost(b, good, 1, b.Days); !oracle.Has(s, lostOf(b, p, good, 1, b.Days)) || l != api.Fine {
			wrong("Lost", good, s, l)
		}
		if s, l := stock.Lasts(b, good, 2); !oracle.Has(s, endOf(b, p, good)/2) || l != api.Fine {
			wrong("Lasts", good, s, l)
		}
	}
	for move := range b.Moves {
		if list, l := stock.Numbers(b, move); !slices.Contains(list, p.really(move)) || l != api.Fine {
			wrong("Numbers", move, list, l)
		}
	}
	for _, move := range notes(b) {
		if sure, l := stock.False(b, move); !oracle.IsSo(sure, slices.Contains(p.lies, move)) || l != api.Fine {
			wrong("False", move, sure, l)
		}
	}
	for day := range b.Days + 1 {
		if s, l := stock.Worth(b, day); !oracle.Has(s, worthOf(b, p, day)) || l != api.Fine {
			wrong("Worth", day, s, l)
		}
	}
	if list, l := stock.Blame(b); len(list) > len(p.lies) || l != api.Fine {
		wrong("Blame", 0, list, l)
	}
	if list, l := stock.Clash(b); len(list) > 0 || l != api.Fine {
		wrong("Clash", 0, list, l)
	}
	if good, left, l := stock.Ask(b); left < 1 || l != api.Fine {
		wrong("Ask", good, left, l)
	}
}

// P8.5, P0.4: whatever really happened is a history, and all that is told is so.
func TestWhateverHappened(t *testing.T) {
	d := dice.Dice(11)
	lies := 0
	for range 800 {
		b, real := anyBook(&d, api.MaxStockMoves, false)
		holds(t, b, real)
		lies += len(real.lies)
	}
	if lies < 200 {
		t.Errorf("only %d notes were false", lies)
	}
}

// P8.6: each number, both ends of each span, and each Open are those of what IsHistory tells to be a history.
func TestReached(t *testing.T) {
	d := dice.Dice(12)
	for i := range 300 {
		b, _ := anyBook(&d, 4, i%2 == 0)
		all := oracle.Kept(plays(b, len(b.Moves)), func(p past) bool {
			is, _ := stock.IsHistory(b, p.first, p.many, p.lies)
			return is
		})
		if n, _ := stock.Histories(b); n != len(all) {
			t.Errorf("%+v: %d histories, but %d are some", b, n, len(all))
		}
		if len(all) == 0 {
			continue
		}
		reached := func(name string, told any, want any) {
			t.Helper()
			if show(told) != show(want) {
				t.Errorf("%+v: %s is %v, but reached are %v", b, name, told, want)
			}
		}
		for good := range b.Goods {
			end := func(p past) int { return endOf(b, p, good) }
			list, _ := stock.Left(b, good, b.Days)
			reached("Left", list, oracle.Numbers(all, end))
			s, _ := stock.Lasts(b, good, 3)
			reached("Lasts", s, oracle.Span(all, func(p past) int { return end(p) / 3 }))
			s, _ = stock.Lost(b, good, 1, b.Days)
			reached("Lost", s, oracle.Span(all, func(p past) int { return lostOf(b, p, good, 1, b.Days) }))
		}
		for move := range b.Moves {
			list, _ := stock.Numbers(b, move)
			reached("Numbers", list, oracle.Numbers(all, func(p past) int { return p.really(move) }))
		}
		for _, move := range notes(b) {
			sure, _ := stock.False(b, move)
			reached("False", sure, oracle.Sure(all, func(p past) bool { return slices.Contains(p.lies, move) }))
		}
		s, _ := stock.Worth(b, b.Days)
		reached("Worth", s, oracle.Span(all, func(p past) int { return worthOf(b, p, b.Days) }))
	}
}

// P8.7: a stock in the end is what was there at first, and all that came and was taken back, less all that went.
func TestConserved(t *testing.T) {
	d := dice.Dice(13)
	for i := range 500 {
		b, p := anyBook(&d, api.MaxStockMoves, i%2 == 0)
		left, low, l := stock.Play(b, p.first, p.many, p.lies)
		if l != api.Fine {
			t.Fatalf("%+v: bell %d", b, l)
		}
		sums := slices.Clone(p.first)
		for i, m := range b.Moves {
			switch {
			case m.Kind == api.StockBack || m.Kind == api.StockCame && !slices.Contains(p.lies, i):
				sums[m.Good] += p.many[i]
			case m.Kind != api.StockCame:
				sums[m.Good] -= p.many[i]
			}
		}
		if !slices.Equal(left, sums) {
			t.Errorf("%+v, %+v: %v are left, but all together are %v", b, p, left, sums)
		}
		for good, n := range low {
			if n > left[good] || n > p.first[good] {
				t.Errorf("%+v, %+v: %v were left, and %v at least", b, p, left, low)
			}
		}
		// if the book says just what happened, all that is told is one number
		sure := alone(b, nil)
		sure.Goods, sure.Moves = slices.Clone(b.Goods), slices.Clone(b.Moves)
		for i, n := range p.first {
			sure.Goods[i].First = to(n, n)
		}
		for i, n := range p.many {
			sure.Moves[i].Many = to(n, n)
			if slices.Contains(p.lies, i) {
				sure.Moves[i].Many = to(0, 0)
			}
		}
		sure.Most = 0
		for good, n := range left {
			if list, l := stock.Left(sure, good, b.Days); !slices.Equal(list, []int{n}) || l != api.Fine {
				t.Errorf("%+v: %v of %d are left, bell %d, not %d", sure, list, good, l, n)
			}
		}
	}
}

// P8.7: losses of days that follow each other add up: day by day in what is sure, and otherwise no days lost more, or less, than all of them together.
func TestLossesAddUp(t *testing.T) {
	d := dice.Dice(14)
	lost := 0
	for i := range 500 {
		b, _ := anyBook(&d, api.MaxStockMoves, false)
		for j, m := range b.Moves {
			if i%2 == 0 {
				b.Moves[j].Many.High = m.Many.Low
			}
		}
		for good := range b.Goods {
			all, l := stock.Lost(b, good, 1, b.Days)
			if l != api.Fine {
				continue
			}
			cut := 1 + d.Roll(b.Days)
			sum, l := stock.Lost(b, good, 1, cut)
			if cut < b.Days {
				rest, l2 := stock.Lost(b, good, cut+1, b.Days)
				sum, l = to(sum.Low+rest.Low, sum.High+rest.High), l+l2
			}
			if all.Low < sum.Low || all.High > sum.High || i%2 == 0 && all != sum || l != api.Fine {
				t.Errorf("%+v: %v of %d were lost, but cut at %d %v, bell %d", b, all, good, cut, sum, l)
			}
			lost += all.High
		}
	}
	if lost < 200 {
		t.Errorf("only %d were lost", lost)
	}
}

// P8.9: with fewer false notes than Blame says a book has no history; more that are allowed never take one away.
func TestMoreFalse(t *testing.T) {
	d := dice.Dice(15)
	blamed, odds := 0, 0
	for range 4000 {
		b, _ := anyBook(&d, api.MaxStockMoves, true)
		list, l := stock.Blame(b)
		before := 0
		for most := range api.MaxStockMost + 1 {
			o := clone(b)
			o.Most = most
			n, _ := stock.Histories(o)
			// the same notes are blamed, whatever Most is
			same, l2 := stock.Blame(o)
			if n < before || (n > 0) != (l == api.Fine && most >= len(list)) || !slices.Equal(same, list) || l2 != l {
				t.Errorf("%+v: %d histories with %d false, %d with one less; Blame: %v, bell %d, now %v, %d", b, n, most, before, list, l, same, l2)
			}
			before = n
		}
		if l != api.Fine {
			odds++
			continue
		}
		if len(list) > 0 {
			blamed++
		}
		// without these deliveries all notes can be right
		o := clone(b)
		o.Most = 0
		for _, move := range list {
			o.Moves[move].Many = to(0, 0)
		}
		if n, _ := stock.Histories(o); n == 0 {
			t.Errorf("%+v: with %v false there is no history", b, list)
		}
	}
	if blamed < 100 || odds < 50 {
		t.Errorf("only %d books blame a note, %d none that there is", blamed, odds)
	}
}

// P0.1: the bells of a million of anything come at once.
func TestMillions(t *testing.T) {
	b := parse(t, textT)
	million := make([]int, 1000000)
	_, _, l := stock.Play(b, million, nil, nil)
	_, _, l2 := stock.Play(b, []int{3, 5}, million, nil)
	_, l3 := stock.IsHistory(b, []int{3, 5}, []int{4, 2, 0, 10}, million)
	_, _, l4 := stock.Buy(b, million, 1)
	_, _, l5 := stock.Parse(strings.Repeat("good tea 1 1 0\n", 1000000))
	if got := show(l, l2, l3, l4, l5); got != show(api.Count, api.Count, api.Order, api.Count, api.Count) {
		t.Error(got)
	}
}
