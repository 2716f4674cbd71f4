package strip

import (
	"slices"
	"strconv"

	"nosale/api"
	"nosale/checks"
	"nosale/spans"
)

const (
	// unread stands for a department or a clerk that cannot be read.
	unread = -1
	// smudge stands for a digit that cannot be read.
	smudge = '?'
	// amountLong is how many digits an amount has.
	amountLong = 3
)

// book is a book that can have a bell.
type book struct{ api.StripBook }

// bell returns the first bell of the book; each check relies on those before it.
func (b book) bell() api.Bell {
	return checks.InTurn(b.checkRegister, b.checkArticles, b.checkItems, b.checkLines, b.checkCounts)
}

// checkRegister returns the bell of the numbers at the head of the book.
func (b book) checkRegister() api.Bell {
	if !spans.Within(b.Last, 9, api.MaxStripLast) || !spans.Within(b.First, 1, b.Last) {
		return api.Bound
	}
	if !spans.Within(b.Digits, 1, api.MaxStripDigits) || !spans.Within(b.Begin, 0, b.modulus()-1) {
		return api.Bound
	}
	if !spans.Within(b.Clerks, 1, api.MaxStripClerks) {
		return api.Bound
	}
	return api.Fine
}

// checkArticles returns the first bell of the articles.
func (b book) checkArticles() api.Bell {
	if !spans.Within(len(b.Articles), 1, api.MaxStripArticles) {
		return api.Count
	}
	for i, a := range b.Articles {
		if !spans.Within(a.Dept, 0, api.MaxStripDept) || !spans.Within(a.Price, 1, api.MaxStripPrice) {
			return api.Bound
		}
		if slices.Contains(b.Articles[:i], a) {
			return api.Twice
		}
	}
	return api.Fine
}

// checkItems returns the first bell of the items, each on its own.
func (b book) checkItems() api.Bell {
	if len(b.Items) > api.MaxStripItems {
		return api.Count
	}
	for _, e := range b.Items {
		if l := b.checkItem(e); l != api.Fine {
			return l
		}
	}
	return api.Fine
}

// checkItem returns the bell of an item.
func (b book) checkItem(e api.StripItem) api.Bell {
	if e.Torn {
		return checkTorn(e)
	}
	if e.Many != (api.Span{}) {
		return api.Bound
	}
	if !isPrinted(e.Number, b.numberLong()) || !isPrinted(e.Amount, amountLong) || !isPrinted(e.Total, b.Digits) {
		return api.Shape
	}
	if !spans.Within(e.Dept, unread, api.MaxStripDept) || !spans.Within(e.Clerk, unread, b.Clerks-1) {
		return api.Bound
	}
	return api.Fine
}

// checkTorn returns the bell of a torn item.
func checkTorn(e api.StripItem) api.Bell {
	if !spans.IsFrom(e.Many, 0, api.MaxStripMissing) {
		return api.Bound
	}
	if e.Number != "" || e.Amount != "" || e.Total != "" || e.Dept != 0 || e.Clerk != 0 {
		return api.Shape
	}
	return api.Fine
}

// checkLines returns the bell of how many lines there are, and can be missing.
func (b book) checkLines() api.Bell {
	entries, missing := 0, 0
	for _, e := range b.Items {
		if e.Torn {
			missing += e.Many.High
		} else {
			entries++
		}
	}
	if entries > api.MaxStripEntries || missing > api.MaxStripMissing {
		return api.Count
	}
	return api.Fine
}

// checkCounts returns the first bell of the counts.
func (b book) checkCounts() api.Bell {
	if len(b.Counts) > api.MaxStripCounts {
		return api.Count
	}
	for _, c := range b.Counts {
		if l := b.checkCount(c); l != api.Fine {
			return l
		}
	}
	return api.Fine
}

// checkCount returns the bell of a count.
func (b book) checkCount(c api.StripCount) api.Bell {
	if !spans.Within(int(c.Kind), int(api.StripTook), int(api.StripAll)) || c.Kind == api.StripAll && c.A != 0 {
		return api.Bound
	}
	if !b.has(thing{c.Kind, c.A}) {
		return api.Missing
	}
	if !spans.IsFrom(c.Many, 0, api.MaxStripCount) {
		return api.Bound
	}
	return api.Fine
}

// checkPlay returns the bell of how many lines are missing at each torn item, and of the sales of all lines.
func (b book) checkPlay(many []int, sold []api.StripSale) api.Bell {
	torn := 0
	for _, e := range b.Items {
		if e.Torn {
			torn++
		}
	}
	if len(many) != torn {
		return api.Count
	}
	long := len(b.Items) - torn
	for _, n := range many {
		if !spans.Within(n, 0, api.MaxStripMissing) {
			return api.Bound
		}
		long += n
	}
	if len(sold) != long {
		return api.Count
	}
	for _, s := range sold {
		if !spans.Within(s.Article, 0, len(b.Articles)-1) || !spans.Within(s.Clerk, 0, b.Clerks-1) {
			return api.Missing
		}
	}
	return api.Fine
}

// modulus returns the number below which totals are printed.
func (b book) modulus() int {
	m := 1
	for range b.Digits {
		m *= 10
	}
	return m
}

// numberLong returns how many digits a number has.
func (b book) numberLong() int { return len(strconv.Itoa(b.Last)) }

// isEntry tells whether an item is the index of an entry.
func (b book) isEntry(item int) bool { return b.isItem(item) && !b.Items[item].Torn }

// isTorn tells whether an item is the index of a torn one.
func (b book) isTorn(item int) bool { return b.isItem(item) && b.Items[item].Torn }

// isItem tells whether an item is the index of one.
func (b book) isItem(item int) bool { return spans.Within(item, 0, len(b.Items)-1) }

// isPrinted tells whether a text is so many digits, each of which can be a question mark.
func isPrinted(text string, long int) bool {
	if len(text) != long {
		return false
	}
	for _, r := range text {
		if r != smudge && !spans.Within(int(r), '0', '9') {
			return false
		}
	}
	return true
}
