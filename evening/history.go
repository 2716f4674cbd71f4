package evening

import (
	"iter"
	"math/bits"
	"slices"

	"nosale/api"
	"nosale/histories"
	"nosale/lists"
	"nosale/spans"
)

// duty is an hour, and a clerk of its staff.
type duty struct{ hour, clerk int }

// allDuties returns the duties of all hours, in order.
func (b book) allDuties() []duty {
	var all []duty
	for hour, h := range b.Hours {
		for _, clerk := range h.Staff {
			all = append(all, duty{hour, clerk})
		}
	}
	return all
}

// checked is a book without a bell, and its duties.
type checked struct {
	book
	duties []duty
}

// open returns a book that is checked, or the bell.
func open(b api.EveningBook) (checked, api.Bell) {
	if l := CheckBook(b); l != api.Fine {
		return checked{}, l
	}
	o := book{b}
	return checked{o, o.allDuties()}, api.Fine
}

// openPasts returns a book that is checked, and all its histories, or the bell; Odds if there is none.
func openPasts(b api.EveningBook) (checked, []history, api.Bell) {
	c, l := open(b)
	if l != api.Fine {
		return checked{}, nil, l
	}
	all := slices.Collect(c.histories())
	if len(all) == 0 {
		return checked{}, nil, api.Odds
	}
	return c, all, api.Fine
}

// amounts is what was taken at each duty, 0 if nothing was; behind the last duty there are zeros.
type amounts [api.MaxEveningDuties]int

// history is what was taken, and the set of the slips that happened, which has a bit for each.
type history struct {
	taken   amounts
	slipped int
}

// allTaken yields all that can have been taken, whatever is counted.
func (c checked) allTaken() iter.Seq[amounts] {
	return func(yield func(amounts) bool) {
		// fill goes on with a duty, when so many takings more can be, and tells whether more is wanted.
		var fill func(taken amounts, duty, most int) bool
		fill = func(taken amounts, duty, most int) bool {
			if duty == len(c.duties) {
				return yield(taken)
			}
			if !fill(taken, duty+1, most) {
				return false
			}
			if most == 0 {
				return true
			}
			for amount := 1; amount <= c.Take; amount++ {
				taken[duty] = amount
				if !fill(taken, duty+1, most-1) {
					return false
				}
			}
			return true
		}
		fill(amounts{}, 0, c.Most)
	}
}

// allSlipped returns all sets of slips that can have happened, whatever is counted.
func (b book) allSlipped() []int {
	var sets []int
	for set := range 1 << len(b.Wheels) {
		if bits.OnesCount(uint(set)) <= b.Slips {
			sets = append(sets, set)
		}
	}
	return sets
}

// alone yields all histories of the book with the counts of a set alone.
func (c checked) alone(set int) iter.Seq[history] {
	slipped := c.allSlipped()
	return func(yield func(history) bool) {
		for taken := range c.allTaken() {
			for _, slips := range slipped {
				h := history{taken, slips}
				if c.isRight(h, set) && !yield(h) {
					return
				}
			}
		}
	}
}

// histories yields all histories of the book.
func (c checked) histories() iter.Seq[history] { return c.alone(1<<len(c.Counts) - 1) }

// isRight tells whether there are numbers with which the counts of a set are right. All the money that there can be behind an hour is one span: what is said in the next hour is free of it.
func (c checked) isRight(h history, set int) bool {
	money, right := c.Float, true
hours:
	for hour := range len(c.Hours) {
		lost := c.lost(h, hour)
		money = spans.Sum(money, c.Hours[hour].Said, spans.One(-lost))
		for i, count := range c.Counts {
			if count.After != hour || set>>i&1 == 0 {
				continue
			}
			if money, right = spans.Common(money, count.Money); !right {
				break hours
			}
		}
	}
	return right
}

// lost returns how much less came into the drawer in an hour than was said.
func (c checked) lost(h history, hour int) int {
	sum := c.total(h, func(d duty) bool { return d.hour == hour })
	for i, s := range c.Wheels {
		if s.Hour == hour && h.hasSlipped(i) {
			sum += s.Error
		}
	}
	return sum
}

// total returns the money that was taken at some duties.
func (c checked) total(h history, is func(d duty) bool) int {
	sum := 0
	for i, d := range c.duties {
		if is(d) {
			sum += h.taken[i]
		}
	}
	return sum
}

// takenBy returns the money that a clerk took.
func (c checked) takenBy(h history, clerk int) int {
	return c.total(h, func(d duty) bool { return d.clerk == clerk })
}

// takenIn returns the money that was taken in an hour.
func (c checked) takenIn(h history, hour int) int {
	return c.total(h, func(d duty) bool { return d.hour == hour })
}

// takers returns the set of the clerks who took something, which has a bit for each.
func (c checked) takers(h history) int {
	set := 0
	for i, d := range c.duties {
		if h.taken[i] > 0 {
			set |= 1 << d.clerk
		}
	}
	return set
}

// hasSlipped tells whether a slip happened.
func (h history) hasSlipped(slip int) bool { return h.slipped>>slip&1 == 1 }

// isHonest tells whether nothing was taken.
func (h history) isHonest() bool { return h.taken == amounts{} }

// saidIn returns what the register said in an hour.
func saidIn(h api.EveningHour) api.Span { return h.Said }

// gap returns by how much a count is short, if nothing slipped and nothing was taken.
func (b book) gap(count int) api.Span {
	first, before := 0, b.Float
	if count > 0 {
		first, before = b.Counts[count-1].After+1, b.Counts[count-1].Money
	}
	now := b.Counts[count]
	said := spans.Together(saidIn, b.Hours[first:now.After+1]...)
	return spans.Sum(before, said, api.Span{Low: -now.Money.High, High: -now.Money.Low})
}

// clash returns the fewest counts that alone have no history, and of several such lists the least one; none if there is a history.
func (c checked) clash() []int {
	counts, _ := lists.LeastSet(len(c.Counts), func(set int) bool { return !histories.Any(c.alone(set)) })
	return counts
}

// hands returns the fewest clerks who can have done it alone, and of several such lists the least one.
func (c checked) hands(all []history) []int {
	clerks, _ := lists.LeastSet(len(c.Clerks), func(set int) bool {
		return slices.ContainsFunc(all, func(h history) bool { return c.takers(h)&^set == 0 })
	})
	return clerks
}
