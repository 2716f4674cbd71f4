package change

import (
	"cmp"
	"iter"
	"slices"

	"nosale/api"
	"nosale/spans"
)

// coins are a number for each kind; behind the last kind there are zeros.
type coins [api.MaxChangeKinds]int

// coinsOf returns the coins of a list that was checked.
func coinsOf(list []int) coins {
	var c coins
	copy(c[:], list)
	return c
}

// plus returns the coins together with more of them.
func (c coins) plus(more coins) coins {
	for kind, n := range more {
		c[kind] += n
	}
	return c
}

// minus returns the coins without some of them.
func (c coins) minus(less coins) coins {
	for kind, n := range less {
		c[kind] -= n
	}
	return c
}

// many returns how many coins these are.
func (c coins) many() int {
	sum := 0
	for _, n := range c {
		sum += n
	}
	return sum
}

// compareCoins compares coins by how many they are, then as lists.
func compareCoins(a, b coins) int {
	return cmp.Or(cmp.Compare(a.many(), b.many()), slices.Compare(a[:], b[:]))
}

// list returns coins as a list that has a number for each kind.
func (b book) list(c coins) []int { return slices.Clone(c[:len(b.Kinds)]) }

// amount returns the amount of coins.
func (b book) amount(c coins) int {
	sum := 0
	for kind, value := range b.Kinds {
		sum += c[kind] * value
	}
	return sum
}

// filled yields all coins whose number of each kind is one of a span that depends on the coins of the kinds before it, from the least list on.
func (b book) filled(numbers func(before coins, kind int) api.Span) iter.Seq[coins] {
	return func(yield func(coins) bool) {
		// fill goes on with a kind, and tells whether more is wanted.
		var fill func(c coins, kind int) bool
		fill = func(c coins, kind int) bool {
			if kind == len(b.Kinds) {
				return yield(c)
			}
			s := numbers(c, kind)
			for n := s.Low; n <= s.High; n++ {
				c[kind] = n
				if !fill(c, kind+1) {
					return false
				}
			}
			return true
		}
		fill(coins{}, 0)
	}
}

// drawers yields all coins that the drawer can have at first.
func (b book) drawers() iter.Seq[coins] {
	return b.filled(func(before coins, kind int) api.Span { return b.Drawer[kind] })
}

// handfuls yields all coins that are so many at most, the fewest first, and of as many the least list.
func (b book) handfuls(most int) iter.Seq[coins] {
	return func(yield func(coins) bool) {
		for many := range most + 1 {
			numbers := func(before coins, kind int) api.Span {
				rest := many - before.many()
				if kind == len(b.Kinds)-1 {
					return spans.One(rest)
				}
				return api.Span{Low: 0, High: rest}
			}
			for c := range b.filled(numbers) {
				if !yield(c) {
					return
				}
			}
		}
	}
}

// changes yields all change for an amount out of coins, from the least list on.
func (b book) changes(there coins, amount int) iter.Seq[coins] {
	return b.filled(func(before coins, kind int) api.Span {
		rest := amount - b.amount(before)
		most := min(there[kind], rest/b.Kinds[kind])
		if kind < len(b.Kinds)-1 {
			return api.Span{Low: 0, High: most}
		}
		if most*b.Kinds[kind] < rest {
			// nothing is from 1 to 0
			return api.Span{Low: 1, High: 0}
		}
		return spans.One(most)
	})
}

// bill is an amount for which change is to be given, and the coins that are there.
type bill struct {
	there  coins
	amount int
}

// payout is the change that is given for a bill, if there is any.
type payout struct {
	change coins
	found  bool
}

// fewest returns the change that is given for a bill.
func (b book) fewest(x bill) payout {
	var behind [api.MaxChangeKinds + 1]int // the amount of all coins from a kind on
	for kind := len(b.Kinds) - 1; kind >= 0; kind-- {
		behind[kind] = behind[kind+1] + x.there[kind]*b.Kinds[kind]
	}
	var best payout
	// fill goes on with a kind, when so much is still to be given. It tries the most coins of each kind first, so that of several ways with as many coins it finds the one that is given first.
	var fill func(given coins, kind, rest int)
	fill = func(given coins, kind, rest int) {
		if rest == 0 {
			best = payout{given, true}
			return
		}
		value := b.Kinds[kind]
		// No coin from here on has a greater value: unless there can be fewer coins than in the best way, none is looked for.
		if best.found && given.many()+(rest+value-1)/value >= best.change.many() {
			return
		}
		for n := min(x.there[kind], rest/value); n >= 0 && rest-n*value <= behind[kind+1]; n-- {
			given[kind] = n
			fill(given, kind+1, rest-n*value)
		}
	}
	fill(coins{}, 0, x.amount)
	return best
}

// amounts tells of each amount up to MaxChangeAmount whether there is change for it out of coins.
func (b book) amounts(there coins) [api.MaxChangeAmount + 1]bool {
	can := [api.MaxChangeAmount + 1]bool{true}
	for kind, value := range b.Kinds {
		var used [len(can)]int // the fewest coins of this kind that an amount takes
		for a := value; a < len(can); a++ {
			if !can[a] && can[a-value] && used[a-value] < there[kind] {
				can[a] = true
				used[a] = used[a-value] + 1
			}
		}
	}
	return can
}

// cannot returns the amounts from 1 to most for which there is no change out of coins, ascending.
func (b book) cannot(there coins, most int) []int {
	var list []int
	can := b.amounts(there)
	for a := 1; a <= most; a++ {
		if !can[a] {
			list = append(list, a)
		}
	}
	return list
}

// swap returns the coins that the bank gives and gets so that there is change for each amount from 1 to most, if there are such ones.
func (b book) swap(there coins, most int) (in, out coins, found bool) {
	for in := range b.handfuls(api.MaxChangeSwap) {
		for out := range b.changes(there, b.amount(in)) {
			if len(b.cannot(there.minus(out).plus(in), most)) == 0 {
				return in, out, true
			}
		}
	}
	return coins{}, coins{}, false
}
