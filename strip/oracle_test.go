package strip_test

import (
	"fmt"
	"slices"

	"nosale/api"
	"nosale/dice"
	"nosale/oracle"
)

// The oracle goes through all numbers of missing lines and all sales, one by one, and keeps those that can be; it calls nothing of the package.

// past is a history.
type past struct {
	many []int
	sold []api.StripSale
}

// printed is a line of a strip; item is the index of its entry, or -1.
type printed struct {
	item                  int
	number, total         int
	Number, Amount, Total string
	sale                  api.StripSale
}

// lays returns all lists of how many lines are missing at the torn items.
func lays(b api.StripBook) [][]int {
	all := [][]int{nil}
	for _, e := range b.Items {
		if !e.Torn {
			continue
		}
		var more [][]int
		for _, many := range all {
			for n := e.Many.Low; n <= e.Many.High; n++ {
				more = append(more, append(slices.Clone(many), n))
			}
		}
		all = more
	}
	return all
}

// itemsOf returns the item of each line, -1 for a line that is missing.
func itemsOf(b api.StripBook, many []int) []int {
	var list []int
	torn := 0
	for i, e := range b.Items {
		if !e.Torn {
			list = append(list, i)
			continue
		}
		for range many[torn] {
			list = append(list, -1)
		}
		torn++
	}
	return list
}

// salesOf returns all lists of so many sales.
func salesOf(b api.StripBook, long int) [][]api.StripSale {
	all := [][]api.StripSale{nil}
	for range long {
		var more [][]api.StripSale
		for _, sold := range all {
			for a := range b.Articles {
				for c := range b.Clerks {
					more = append(more, append(slices.Clone(sold), api.StripSale{Article: a, Clerk: c}))
				}
			}
		}
		all = more
	}
	return all
}

// linesOf returns the lines of the strip.
func linesOf(b api.StripBook, p past) []printed {
	var list []printed
	number, total := b.First, b.Begin
	top := 1
	for range b.Digits {
		top *= 10
	}
	wide := len(fmt.Sprint(b.Last))
	for i, item := range itemsOf(b, p.many) {
		s := p.sold[i]
		price := b.Articles[s.Article].Price
		total += price
		for total >= top {
			total -= top
		}
		list = append(list, printed{item, number, total, fmt.Sprintf("%0*d", wide, number), fmt.Sprintf("%03d", price), fmt.Sprintf("%0*d", b.Digits, total), s})
		number++
		if number > b.Last {
			number = 1
		}
	}
	return list
}

// same tells whether a text is as far as it can be read what is printed.
func same(read, printed string) bool {
	for i := range read {
		if read[i] != '?' && read[i] != printed[i] {
			return false
		}
	}
	return len(read) == len(printed)
}

// isPrinted tells whether each entry is as it is printed.
func isPrinted(b api.StripBook, p past) bool {
	for _, l := range linesOf(b, p) {
		if l.item == -1 {
			continue
		}
		e := b.Items[l.item]
		dept := b.Articles[l.sale.Article].Dept
		if !same(e.Number, l.Number) || !same(e.Amount, l.Amount) || !same(e.Total, l.Total) || e.Dept != -1 && e.Dept != dept || e.Clerk != -1 && e.Clerk != l.sale.Clerk {
			return false
		}
	}
	return true
}

// counted returns what is counted of a strip.
func counted(b api.StripBook, p past, kind api.StripKind, a int) int {
	n := 0
	for _, s := range p.sold {
		switch {
		case kind == api.StripTook && b.Articles[s.Article].Dept == a:
			n += b.Articles[s.Article].Price
		case kind == api.StripMade && s.Clerk == a, kind == api.StripSold && s.Article == a, kind == api.StripAll:
			n++
		}
	}
	return n
}

// isCounted tells whether each count has what is counted in its span.
func isCounted(b api.StripBook, p past) bool {
	for _, c := range b.Counts {
		if n := counted(b, p, c.Kind, c.A); n < c.Many.Low || n > c.Many.High {
			return false
		}
	}
	return true
}

// printedPasts returns all that can have been sold, whatever is counted.
func printedPasts(b api.StripBook) []past {
	var all []past
	for _, many := range lays(b) {
		for _, sold := range salesOf(b, len(itemsOf(b, many))) {
			if p := (past{many, sold}); isPrinted(b, p) {
				all = append(all, p)
			}
		}
	}
	return all
}

// countedPasts returns those of pasts that agree with the counts of a book.
func countedPasts(b api.StripBook, pasts []past) []past {
	var all []past
	for _, p := range pasts {
		if isCounted(b, p) {
			all = append(all, p)
		}
	}
	return all
}

// pasts returns all histories of a book.
func pasts(b api.StripBook) []past { return countedPasts(b, printedPasts(b)) }

// lineOf returns the line of an entry.
func lineOf(b api.StripBook, p past, item int) printed {
	for _, l := range linesOf(b, p) {
		if l.item == item {
			return l
		}
	}
	panic("no such entry")
}

// endOf returns the number and the total with which the strip behind this one begins.
func endOf(b api.StripBook, p past) (number, total int) {
	number, total = b.First, b.Begin
	for _, l := range linesOf(b, p) {
		number, total = l.number+1, l.total
	}
	if number > b.Last {
		number = 1
	}
	return number, total
}

// tornOf returns how many lines are missing at an item.
func tornOf(b api.StripBook, p past, item int) int {
	torn := 0
	for _, e := range b.Items[:item] {
		if e.Torn {
			torn++
		}
	}
	return p.many[torn]
}

// spanOf returns the span from the first to the last number.
func spanOf(list []int) api.Span {
	if len(list) == 0 {
		return api.Span{}
	}
	return to(list[0], list[len(list)-1])
}

// clashOf returns the fewest counts that alone have no history: all lists of indexes are tried, the shorter ones first, the lesser ones first.
func clashOf(b api.StripBook, printed []past) (counts []int, l api.Bell) {
	if len(printed) == 0 {
		return nil, api.Short
	}
	if len(countedPasts(b, printed)) > 0 {
		return nil, api.Fine
	}
	lists := [][]int{nil}
	for len(lists) > 0 {
		var more [][]int
		for _, list := range lists {
			if len(countedPasts(alone(b, list), printed)) == 0 {
				return list, api.Fine
			}
			next := 0
			if len(list) > 0 {
				next = list[len(list)-1] + 1
			}
			for i := next; i < len(b.Counts); i++ {
				more = append(more, append(slices.Clone(list), i))
			}
		}
		lists = more
	}
	panic("no clash")
}

// alone returns the book with some counts alone.
func alone(b api.StripBook, list []int) api.StripBook {
	o := clone(b)
	o.Counts = oracle.Picked(b.Counts, list)
	return o
}

// question is what can be counted.
type question struct {
	kind api.StripKind
	a    int
}

// questions returns all that can be counted of a book, by kinds, then by A.
func questions(b api.StripBook) []question {
	var list []question
	for dept := range 10 {
		for _, a := range b.Articles {
			if q := (question{api.StripTook, dept}); a.Dept == dept && !slices.Contains(list, q) {
				list = append(list, q)
			}
		}
	}
	for c := range b.Clerks {
		list = append(list, question{api.StripMade, c})
	}
	for a := range b.Articles {
		list = append(list, question{api.StripSold, a})
	}
	return append(list, question{api.StripAll, 0})
}

// askOf returns what is to be counted, and how many histories are left then.
func askOf(b api.StripBook, all []past) (best question, left int) {
	best, left = question{-1, 0}, len(all)
	for _, q := range questions(b) {
		worst := 0
		alike := map[int]int{}
		for _, p := range all {
			n := counted(b, p, q.kind, q.a)
			alike[n]++
			worst = max(worst, alike[n])
		}
		if worst < left {
			best, left = q, worst
		}
	}
	return best, left
}

// anyRegister returns a book without items and counts.
func anyRegister(d *dice.Dice) api.StripBook {
	b := api.StripBook{Last: []int{9, 10, 12, 99, 100, 999}[d.Roll(6)], Digits: 1 + d.Roll(4), Clerks: 1 + d.Roll(2)}
	b.First = 1 + d.Roll(b.Last)
	if d.Roll(2) == 0 {
		b.First = b.Last - d.Roll(4)
	}
	top := 1
	for range b.Digits {
		top *= 10
	}
	b.Begin = d.Roll(top)
	if d.Roll(2) == 0 {
		b.Begin = top - 1 - d.Roll(min(top, 60))
	}
	for range 1 + d.Roll(3) {
		a := api.StripArticle{Dept: []int{0, 1, 9}[d.Roll(3)], Price: []int{1, 10, 20, 25, 40, 100, 999, 1 + d.Roll(999)}[d.Roll(8)]}
		if !slices.Contains(b.Articles, a) {
			b.Articles = append(b.Articles, a)
		}
	}
	return b
}

// anyStrip returns a book without counts of which all can be read, and what really happened; there are at most so many lines.
func anyStrip(d *dice.Dice, long int) (api.StripBook, past) {
	b := anyRegister(d)
	var truth past
	missing := 0
	for range d.Roll(6) {
		if d.Roll(3) > 0 {
			if long > 0 {
				b.Items = append(b.Items, blurred(b))
				long--
			}
			continue
		}
		high := d.Roll(1 + min(long, api.MaxStripMissing-missing))
		low := d.Roll(high + 1)
		missing += high
		long -= high
		b.Items = append(b.Items, api.StripItem{Torn: true, Many: to(low, high)})
		truth.many = append(truth.many, low+d.Roll(high-low+1))
	}
	for range itemsOf(b, truth.many) {
		truth.sold = append(truth.sold, api.StripSale{Article: d.Roll(len(b.Articles)), Clerk: d.Roll(b.Clerks)})
	}
	for _, l := range linesOf(b, truth) {
		if l.item >= 0 {
			b.Items[l.item] = api.StripItem{Number: l.Number, Amount: l.Amount, Total: l.Total, Dept: b.Articles[l.sale.Article].Dept, Clerk: l.sale.Clerk}
		}
	}
	return b, truth
}

// blur returns an entry of which some cannot be read any more.
func blur(d *dice.Dice, e api.StripItem) api.StripItem {
	smudge := func(text string) string {
		out := []byte(text)
		for i := range out {
			if d.Roll(5) < 3 {
				out[i] = '?'
			}
		}
		return string(out)
	}
	e.Number, e.Amount, e.Total = smudge(e.Number), smudge(e.Amount), smudge(e.Total)
	if d.Roll(3) > 0 {
		e.Dept = -1
	}
	if d.Roll(3) > 0 {
		e.Clerk = -1
	}
	return e
}

// anyCount returns a count that is right.
func anyCount(d *dice.Dice, b api.StripBook, truth past) api.StripCount {
	all := questions(b)
	q := all[d.Roll(len(all))]
	n := counted(b, truth, q.kind, q.a)
	wide := 2
	if q.kind == api.StripTook {
		wide = 60
	}
	return api.StripCount{Kind: q.kind, A: q.a, Many: to(max(0, n-d.Roll(wide)), min(api.MaxStripCount, n+d.Roll(wide)))}
}

// anyBook returns a book without a bell, and what really happened; if lies is true, what is printed and counted can be false.
func anyBook(d *dice.Dice, lies bool) (api.StripBook, past) {
	b, truth := anyStrip(d, 4)
	for i, e := range b.Items {
		if !e.Torn {
			b.Items[i] = blur(d, e)
		}
	}
	for range d.Roll(api.MaxStripCounts + 1) {
		c := anyCount(d, b, truth)
		if lies && d.Roll(2) == 0 {
			c.Many = to(d.Roll(4), 3+d.Roll(3))
		}
		b.Counts = append(b.Counts, c)
	}
	if lies && len(b.Items) > 0 && d.Roll(6) == 0 {
		if e := &b.Items[d.Roll(len(b.Items))]; !e.Torn {
			e.Total = "7" + e.Total[1:]
		}
	}
	return b, truth
}
