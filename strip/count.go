package strip

import (
	"cmp"
	"iter"
	"slices"
	"sync"

	"nosale/api"
	"nosale/lists"
	"nosale/spans"
)

// kind is a kind of counts: its word, the A that it can have, ascending, and how much a sale adds to what is counted.
type kind struct {
	word  string
	about func(b book) []int
	adds  func(b book, s api.StripSale, a int) int
}

// kinds returns all kinds of counts.
func kinds() [4]kind {
	return [4]kind{
		api.StripTook: {"took", book.depts, book.takes},
		api.StripMade: {"made", func(b book) []int { return below(b.Clerks) }, func(b book, s api.StripSale, a int) int { return one(s.Clerk == a) }},
		api.StripSold: {"sold", func(b book) []int { return below(len(b.Articles)) }, func(b book, s api.StripSale, a int) int { return one(s.Article == a) }},
		api.StripAll:  {"all", func(b book) []int { return below(1) }, func(b book, s api.StripSale, a int) int { return 1 }},
	}
}

// depts returns the departments of the articles, ascending.
func (b book) depts() []int {
	var list []int
	for _, a := range b.Articles {
		list = append(list, a.Dept)
	}
	slices.Sort(list)
	return slices.Compact(list)
}

// takes returns the amount that a department takes by a sale.
func (b book) takes(s api.StripSale, dept int) int {
	a := b.Articles[s.Article]
	return a.Price * one(a.Dept == dept)
}

// below returns the numbers from 0 to n - 1.
func below(n int) []int {
	var list []int
	for i := range n {
		list = append(list, i)
	}
	return list
}

// one returns 1 if something is so, and otherwise 0.
func one(so bool) int {
	if so {
		return 1
	}
	return 0
}

// thing is what a count can count.
type thing struct {
	kind api.StripKind
	a    int
}

// has tells whether the book has a thing of a kind that is listed.
func (b book) has(t thing) bool { return slices.Contains(kinds()[t.kind].about(b), t.a) }

// things returns all that can be counted, by kinds, then by A.
func (b book) things() []thing {
	var list []thing
	for k, kind := range kinds() {
		for _, a := range kind.about(b) {
			list = append(list, thing{api.StripKind(k), a})
		}
	}
	return list
}

// maxThings is how many things a book can have: departments, clerks, articles, and all sales.
const maxThings = api.MaxStripArticles + api.MaxStripClerks + api.MaxStripArticles + 1

// tally is what is counted of each thing of a book, in their order.
type tally [maxThings]int

// plus returns both tallies together.
func (t tally) plus(more tally) tally {
	for i, n := range more {
		t[i] += n
	}
	return t
}

// tallyOf returns what a sale adds to each thing.
func (b book) tallyOf(s api.StripSale) tally {
	var t tally
	for i, x := range b.things() {
		t[i] = kinds()[x.kind].adds(b, s, x.a)
	}
	return t
}

// fulfils tells whether what is counted is as the counts of a set say, which has a bit for each.
func (c checked) fulfils(t tally, set int) bool {
	for i, count := range c.Counts {
		n := t[c.place(thing{count.Kind, count.A})]
		if set>>i&1 == 1 && !spans.Has(count.Many, n) {
			return false
		}
	}
	return true
}

// allCounts returns the set of all counts.
func (c checked) allCounts() int { return 1<<len(c.Counts) - 1 }

// tallies returns how many histories have each tally.
func tallies(all iter.Seq[history]) map[tally]int {
	many := map[tally]int{}
	for h := range all {
		many[h.counted]++
	}
	return many
}

// contradictions returns the lists of counts that alone have no history.
func (c checked) contradictions() [][]int {
	counted := tallies(c.strips())
	var all [][]int
sets:
	for set := range 1 << len(c.Counts) {
		for t := range counted {
			if c.fulfils(t, set) {
				continue sets
			}
		}
		all = append(all, lists.OfSet(set))
	}
	return all
}

// trial is a thing, by its place, and how many histories are left at most once its count is known.
type trial struct{ place, left int }

// compareTrials compares two trials by what is left, then by the thing.
func compareTrials(a, b trial) int {
	return cmp.Or(cmp.Compare(a.left, b.left), cmp.Compare(a.place, b.place))
}

// trials returns the trial of each thing, in their order, if so many histories have each tally.
func (c checked) trials(counted map[tally]int) []trial {
	list := make([]trial, len(c.known))
	var lock sync.Mutex
	var wait sync.WaitGroup
	for place := range c.known {
		wait.Add(1)
		go func() {
			defer wait.Done()
			t := trial{place, mostAlike(counted, place)}
			lock.Lock()
			defer lock.Unlock()
			list[place] = t
		}()
	}
	wait.Wait()
	return list
}

// mostAlike returns how many histories have the same count of a thing, at most.
func mostAlike(counted map[tally]int, place int) int {
	alike, most := map[int]int{}, 0
	for t, many := range counted {
		alike[t[place]] += many
		most = max(most, alike[t[place]])
	}
	return most
}

// ask returns the thing whose count leaves the fewest histories at most, and how many those are; the kind is -1, and all histories are left, if none leaves fewer. Without a history nothing is left.
func (c checked) ask() (t thing, left int) {
	counted := tallies(c.histories())
	all := 0
	for _, many := range counted {
		all += many
	}
	best, found := lists.Least(compareTrials, c.trials(counted)...)
	if !found || best.left == all {
		return thing{kind: -1}, all
	}
	return c.known[best.place], best.left
}
