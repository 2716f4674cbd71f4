package tag

import (
	"cmp"
	"iter"
	"maps"
	"slices"

	"nosale/api"
	"nosale/lists"
	"nosale/spans"
)

// checked is a house without a bell.
type checked struct {
	house
	means map[spot][]reading
	known []word // the words of histories
}

// open returns a house that is checked, or its bell.
func open(h api.TagHouse) (checked, api.Bell) {
	if l := CheckHouse(h); l != api.Fine {
		return checked{}, l
	}
	return newChecked(house{h}), api.Fine
}

// openTag returns a house that is checked, if it has a tag, or the bell.
func openTag(h api.TagHouse, tag int) (checked, api.Bell) {
	c, l := open(h)
	if l == api.Fine && !spans.Within(tag, 0, len(h.Tags)-1) {
		return checked{}, api.Missing
	}
	return c, l
}

func newChecked(h house) checked {
	c := checked{house: h, means: h.meanings()}
	all := 1<<len(h.Tags) - 1
	for w := range h.words() {
		if c.fits(w, all) {
			c.known = append(c.known, w)
		}
	}
	return c
}

// fits tells whether letters can stand, by a word, on each tag of a set, which has a bit for each.
func (c checked) fits(w word, set int) bool {
	for tag := range c.Tags {
		if set>>tag&1 == 1 && len(c.means[spot{tag, w}]) == 0 {
			return false
		}
	}
	return true
}

// oddness returns Odds if there is no history.
func (c checked) oddness() api.Bell {
	if len(c.known) == 0 {
		return api.Odds
	}
	return api.Fine
}

// ifPossible returns a house without a bell if it has a history.
func ifPossible(h api.TagHouse) (api.TagHouse, api.Bell) {
	if l := newChecked(house{h}).oddness(); l != api.Fine {
		return api.TagHouse{}, l
	}
	return h, api.Fine
}

// copyHouse returns a house that shares no memory with h.
func copyHouse(h api.TagHouse) api.TagHouse {
	h.Alike = slices.Clone(h.Alike)
	h.Tags = slices.Clone(h.Tags)
	return h
}

// listOf returns what is told of several words, ascending, each once.
func listOf[E cmp.Ordered](words []word, tell func(w word) []E) []E {
	found := map[E]bool{}
	for _, w := range words {
		for _, e := range tell(w) {
			found[e] = true
		}
	}
	return slices.Sorted(maps.Keys(found))
}

// told returns what is told of the words of all histories; Odds if there is none.
func told[E cmp.Ordered](c checked, tell func(w word) []E) ([]E, api.Bell) {
	return listOf(c.known, tell), c.oddness()
}

// isSettled tells whether all histories have the same word.
func (c checked) isSettled() bool {
	for _, w := range c.known {
		if w != c.known[0] {
			return false
		}
	}
	return true
}

// hung is a tag of a house.
type hung struct {
	checked
	tag int
}

// numbers returns the numbers that can stand on the tag by a word.
func (t hung) numbers(w word) []int { return numbersOf(t.means[spot{t.tag, w}]) }

// stands yields what stands on the tag in histories.
func (t hung) stands() iter.Seq[reading] {
	return func(yield func(reading) bool) {
		for _, w := range t.known {
			for _, r := range t.means[spot{t.tag, w}] {
				if !yield(r) {
					return
				}
			}
		}
	}
}

// mostAlike returns how many words are left at most once the number of the tag is known.
func (t hung) mostAlike() int {
	alike, most := map[int]int{}, 0
	for _, w := range t.known {
		for _, n := range t.numbers(w) {
			alike[n]++
			most = max(most, alike[n])
		}
	}
	return most
}

// ask returns the tag whose number leaves the fewest words at most, and how many those are; -1, and all words are left, if none leaves fewer.
func (c checked) ask() (tag, left int) {
	tag, left = -1, len(c.known)
	for i := range c.Tags {
		if most := (hung{c, i}).mostAlike(); most < left {
			tag, left = i, most
		}
	}
	return tag, left
}

// clash returns the fewest tags that contradict each other, and of several such lists the least one; none if there is a history.
func (c checked) clash() []int {
	var clashes [][]int
sets:
	for set := range 1 << len(c.Tags) {
		for w := range c.words() {
			if c.fits(w, set) {
				continue sets
			}
		}
		clashes = append(clashes, lists.OfSet(set))
	}
	fewest, _ := lists.Least(lists.Compare, clashes...)
	return fewest
}

// shown is what is read on some tag.
type shown struct {
	house
	reads string
}

// numbers returns the numbers that can stand, by a word, where this is read.
func (s shown) numbers(w word) []int { return numbersOf(s.readings(s.reads, w)) }

// numbersOf returns the numbers of readings.
func numbersOf(readings []reading) []int {
	var list []int
	for _, r := range readings {
		list = append(list, r.number)
	}
	return list
}

// isPlain tells whether an amount, written by any of the words, is read as no other number.
func (c checked) isPlain(a amount) bool {
	for _, text := range listOf(c.known, a.written) {
		numbers := listOf(c.known, shown{c.house, text}.numbers)
		if !slices.Equal(numbers, []int{a.price}) {
			return false
		}
	}
	return true
}
