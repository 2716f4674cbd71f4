package sales

import (
	"iter"
	"math/bits"
	"slices"
	"sync"

	"nosale/api"
	"nosale/histories"
	"nosale/lists"
	"nosale/spans"
)

// written is what was written: the number on each slip, and which slips are signed. Behind the last slip nothing is written.
type written struct {
	numbers [api.MaxSalesSlips]int
	signed  [api.MaxSalesSlips]bool
}

// amounts is what each slip amounts to now; behind the last slip there are zeros.
type amounts [api.MaxSalesSlips]int

// writtenOf returns what was written, of lists that were checked.
func (b book) writtenOf(numbers []int, signed []bool) written {
	var w written
	copy(w.numbers[:], numbers)
	for i, fix := range b.fixes() {
		w.signed[fix] = signed[i]
	}
	return w
}

// writings yields all that can have been written, whatever the sums say.
func (b book) writings() iter.Seq[written] {
	return func(yield func(written) bool) {
		// fill goes on with a slip, and tells whether more is wanted.
		var fill func(w written, slip int) bool
		fill = func(w written, slip int) bool {
			if slip == len(b.Slips) {
				return yield(w)
			}
			s := b.Slips[slip]
			for n := s.Amount.Low; n <= s.Amount.High; n++ {
				for _, signed := range canBeSigned(s) {
					w.numbers[slip], w.signed[slip] = n, signed
					if !fill(w, slip+1) {
						return false
					}
				}
			}
			return true
		}
		fill(written{}, 0)
	}
}

// canBeSigned returns whether a slip is signed, as far as it is known; none but a fix ever is.
func canBeSigned(s api.SalesSlip) []bool {
	if s.Kind != api.SalesFix {
		return []bool{false}
	}
	var can []bool
	switch s.Signed {
	case api.Open:
		can = append(can, false)
		fallthrough
	case api.Yes:
		can = append(can, true)
	case api.No:
		can = append(can, false)
	}
	return can
}

// amountsNow returns the amounts of all slips now.
func (b book) amountsNow(w written) amounts {
	now := amounts(w.numbers)
	for _, fix := range b.fixes() {
		now[fix] = 0
		if w.signed[fix] {
			now[b.Slips[fix].For] = w.numbers[fix]
		}
	}
	return now
}

// isThere tells whether of no slip more is taken back than it amounts to now.
func (b book) isThere(now amounts) bool {
	left := now
	for i, s := range b.Slips {
		if s.Kind == api.SalesBack {
			left[s.For] -= now[i]
			if left[s.For] < 0 {
				return false
			}
		}
	}
	return true
}

// checked is a book without a bell; of all that can have been written with no more taken back than there was, it keeps the amounts now, and the set of the sums that are false, which has a bit for each.
type checked struct {
	book
	now   map[written]amounts
	wrong map[written]int
}

// open returns a book that has no bell, or the bell.
func open(b api.SalesBook) (book, api.Bell) {
	if l := CheckBook(b); l != api.Fine {
		return book{}, l
	}
	return book{b}, api.Fine
}

// check returns a book that is checked, or the bell.
func check(b api.SalesBook) (checked, api.Bell) {
	o, l := open(b)
	if l != api.Fine {
		return checked{}, l
	}
	c := checked{o, map[written]amounts{}, map[written]int{}}
	for w := range o.writings() {
		if now := o.amountsNow(w); o.isThere(now) {
			c.now[w] = now
		}
	}
	c.lookAtSums()
	return c, api.Fine
}

// lookAtSums finds out which sums are false in all that can have been written.
func (c checked) lookAtSums() {
	var lock sync.Mutex
	var wait sync.WaitGroup
	for sum := range c.Sums {
		wait.Add(1)
		go func() {
			defer wait.Done()
			wrong := c.wrongIn(sum)
			lock.Lock()
			defer lock.Unlock()
			for _, w := range wrong {
				c.wrong[w] |= 1 << sum
			}
		}()
	}
	wait.Wait()
}

// wrongIn returns what can have been written such that a sum is false.
func (c checked) wrongIn(sum int) []written {
	isFalse := c.falsehood(sum)
	var wrong []written
	for w, now := range c.now {
		if isFalse(now) {
			wrong = append(wrong, w)
		}
	}
	return wrong
}

// falsehood returns what tells whether a sum is false with some amounts.
func (b book) falsehood(sum int) func(now amounts) bool {
	s := b.Sums[sum]
	counts := b.shares(s.Kind, s.A)
	return func(now amounts) bool { return !spans.Has(s.Many, counts.total(now)) }
}

// falseSums returns the sums that are false with some amounts, ascending.
func (b book) falseSums(now amounts) []int {
	var list []int
	for sum := range b.Sums {
		if isFalse := b.falsehood(sum); isFalse(now) {
			list = append(list, sum)
		}
	}
	return list
}

// firm returns the set of the sums that are firm.
func (b book) firm() int {
	set := 0
	for i, s := range b.Sums {
		if s.Firm {
			set |= 1 << i
		}
	}
	return set
}

// history is what was written, the amounts now, and the set of the sums that are false.
type history struct {
	written
	now   amounts
	wrong int
}

// isFalse tells whether a sum is false.
func (h history) isFalse(sum int) bool { return h.wrong>>sum&1 == 1 }

// histories yields all histories of the book.
func (c checked) histories() iter.Seq[history] {
	firm := c.firm()
	return func(yield func(history) bool) {
		for w := range c.writings() {
			now, is := c.now[w]
			h := history{w, now, c.wrong[w]}
			if is && h.wrong&firm == 0 && bits.OnesCount(uint(h.wrong)) <= c.Most && !yield(h) {
				return
			}
		}
	}
}

// isHistory tells whether what was written is a history.
func (c checked) isHistory(w written) bool {
	for h := range c.histories() {
		if h.numbers == w.numbers && h.signed == w.signed {
			return true
		}
	}
	return false
}

// fewest returns the fewest sums that are all that is false in something that can have been written, none of them firm, and of several such lists the least one, if there is any.
func (c checked) fewest() (sums []int, found bool) {
	firm := c.firm()
	var all []int
sets:
	for set := range 1 << len(c.Sums) {
		if set&firm != 0 {
			continue
		}
		for w := range c.now {
			if c.wrong[w] == set {
				all = append(all, set)
				continue sets
			}
		}
	}
	return lists.LeastOf(all...)
}

// copyBook returns a book that shares no memory with b.
func copyBook(b api.SalesBook) api.SalesBook {
	b.Slips = slices.Clone(b.Slips)
	b.Sums = slices.Clone(b.Sums)
	return b
}

// ifPossible returns a book if it has no bell, and a history.
func ifPossible(b api.SalesBook) (api.SalesBook, api.Bell) {
	c, l := check(b)
	return histories.IfAny(b, l, c.histories)
}

// clean returns the book without fixes, in which each slip has the amount of the last one for it that is signed; no fix is open.
func (b book) clean() api.SalesBook {
	next := api.SalesBook{Most: b.Most, Sums: slices.Clone(b.Sums)}
	var place [api.MaxSalesSlips]int // the new index of each slip
	for i, s := range b.Slips {
		if s.Kind == api.SalesFix {
			if s.Signed == api.Yes {
				next.Slips[place[s.For]].Amount = s.Amount
			}
			continue
		}
		place[i] = len(next.Slips)
		if s.For != aboutNone {
			s.For = place[s.For]
		}
		next.Slips = append(next.Slips, s)
	}
	return next
}
