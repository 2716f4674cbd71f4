package build

import (
	"cmp"
	"slices"

	"nosale/api"
	"nosale/histories"
	"nosale/lists"
)

// checked is a book without a bell, all its histories, of which there is one at least, and the turns of machines that are known.
type checked struct {
	book
	all   []times
	known map[machine]api.Span
}

// check returns a book that is checked, or the bell; Odds if there is no history.
func check(b api.BuildBook) (checked, api.Bell) {
	o, l := open(b)
	if l != api.Fine {
		return checked{}, l
	}
	all := slices.Collect(o.histories())
	if len(all) == 0 {
		return checked{}, api.Odds
	}
	return checked{o, all, map[machine]api.Span{}}, api.Fine
}

// checkSafe returns a book that is checked, and all safe machines, or the bell; Short if there is none.
func checkSafe(b api.BuildBook) (checked, []machine, api.Bell) {
	c, l := check(b)
	if l != api.Fine {
		return checked{}, nil, l
	}
	safe := c.safe()
	if len(safe) == 0 {
		return checked{}, nil, api.Short
	}
	return c, safe, api.Fine
}

// turns returns the span of the ticks that a machine takes.
func (c checked) turns(m machine) api.Span {
	s, known := c.known[m]
	if !known {
		s, _ = histories.Span(slices.Values(c.all), func(t times) int { return c.takes(m, t) })
		c.known[m] = s
	}
	return s
}

// most returns the most ticks that a machine takes.
func (c checked) most(m machine) int { return c.turns(m).High }

// safe returns all machines that are late in no history, from the least list on.
func (c checked) safe() []machine {
	var safe []machine
	for m := range c.machines() {
		if c.most(m) <= c.Beat {
			safe = append(safe, m)
		}
	}
	return safe
}

// least returns the machine of which the least is counted; of counts in which machines differ the first one decides, and of several machines it is the first one.
func least(all []machine, counts ...func(m machine) int) machine {
	best, _ := lists.Least(func(one, other machine) int {
		for _, count := range counts {
			if order := cmp.Compare(count(one), count(other)); order != 0 {
				return order
			}
		}
		return 0
	}, all...)
	return best
}

// needs returns the parts that each machine has, ascending.
func (c checked) needs(all []machine) []int {
	var list []int
	for part := range c.Parts {
		if !slices.ContainsFunc(all, func(m machine) bool { return !c.has(m, part) }) {
			list = append(list, part)
		}
	}
	return list
}

// stock is how many parts of each kind there are.
type stock struct{ many [api.MaxBuildParts]int }

// there returns the parts that are there.
func (b book) there() stock {
	var s stock
	for part, p := range b.Parts {
		s.many[part] = p.Stock
	}
	return s
}

// parts returns the parts of a machine.
func (b book) parts(m machine) stock {
	var s stock
	for _, part := range m[:b.Places] {
		s.many[part]++
	}
	return s
}

// without returns what is left once some parts are taken away, and whether there were enough.
func (s stock) without(less stock) (left stock, enough bool) {
	for part, n := range less.many {
		if s.many[part] < n {
			return stock{}, false
		}
		s.many[part] -= n
	}
	return s, true
}

// builds returns how many of some machines can be built at most from the parts that are there.
func (c checked) builds(all []machine) int {
	var kinds []stock
	for _, m := range all {
		if p := c.parts(m); !slices.Contains(kinds, p) {
			kinds = append(kinds, p)
		}
	}
	known := map[stock]int{}
	// from returns how many can be built from a stock.
	var from func(s stock) int
	from = func(s stock) int {
		if many, is := known[s]; is {
			return many
		}
		many := 0
		for _, parts := range kinds {
			if left, enough := s.without(parts); enough {
				many = max(many, 1+from(left))
			}
		}
		known[s] = many
		return many
	}
	return from(c.there())
}
