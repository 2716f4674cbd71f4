package tag

import (
	"slices"

	"nosale/api"
	"nosale/spans"
)

// smudge stands for a letter that is not known, or cannot be read.
const smudge = '?'

// rule is what has to hold of a thing, and the bell if it does not.
type rule[T any] struct {
	holds func(thing T) bool
	bell  api.Bell
}

// firstBell returns the bell of the first rule that does not hold; each rule relies on those before it.
func firstBell[T any](thing T, rules []rule[T]) api.Bell {
	for _, r := range rules {
		if !r.holds(thing) {
			return r.bell
		}
	}
	return api.Fine
}

// house is a house that can have a bell.
type house struct{ api.TagHouse }

// houseRules returns the rules of a house before those of its pairs and tags.
func houseRules() []rule[house] {
	return []rule[house]{
		{house.isSpelt, api.Shape},
		{house.hasOnlyLetters, api.Shape},
		{house.fillsUp, api.Count},
		{house.hasEachOnce, api.Twice},
		{house.hasFewPairs, api.Count},
	}
}

// bell returns the first bell of the house.
func (h house) bell() api.Bell {
	if l := firstBell(h, houseRules()); l != api.Fine {
		return l
	}
	for i := range h.Alike {
		if l := firstBell(pair{h.Alike[i], h.Alike[:i]}, pairRules()); l != api.Fine {
			return l
		}
	}
	if len(h.Tags) > api.MaxTagTags {
		return api.Count
	}
	for _, t := range h.Tags {
		if l := firstBell(label{t}, labelRules()); l != api.Fine {
			return l
		}
	}
	return api.Fine
}

// isSpelt tells whether the house has a letter, known or not, for each digit.
func (h house) isSpelt() bool {
	return len(h.Letters) == len(word{}) && isReadable(h.Letters)
}

// hasOnlyLetters tells whether all that is spare or repeats is letters.
func (h house) hasOnlyLetters() bool {
	return areLetters(h.Spare) && areLetters(h.Repeat) && len(h.Repeat) <= 1
}

// fillsUp tells whether there are as many spare letters as places for them, and not too many.
func (h house) fillsUp() bool {
	return len(h.Spare) == smudges(h.Letters) && len(h.Spare) <= api.MaxTagSpare
}

// hasEachOnce tells whether no letter stands twice.
func (h house) hasEachOnce() bool {
	var seen []rune
	for _, l := range h.Letters + h.Spare + h.Repeat {
		if l != smudge && slices.Contains(seen, l) {
			return false
		}
		seen = append(seen, l)
	}
	return true
}

// hasFewPairs tells whether there are not too many pairs.
func (h house) hasFewPairs() bool { return len(h.Alike) <= api.MaxTagAlike }

// pair is letters that look alike, and the pairs before them.
type pair struct {
	letters string
	before  []string
}

// pairRules returns the rules of a pair.
func pairRules() []rule[pair] {
	return []rule[pair]{{pair.isPair, api.Shape}, {pair.isNew, api.Twice}}
}

// isPair tells whether these are two letters.
func (p pair) isPair() bool { return len(p.letters) == 2 && areLetters(p.letters) }

// isNew tells whether these are two different letters, and no earlier pair.
func (p pair) isNew() bool {
	one, other := p.letters[0], p.letters[1]
	return one != other && !slices.Contains(p.before, p.letters) && !slices.Contains(p.before, string([]byte{other, one}))
}

// label is a tag that can have a bell.
type label struct{ api.TagTag }

// readRules returns the rules of what is read on a tag.
func readRules() []rule[label] {
	return []rule[label]{{label.isLong, api.Count}, {label.isReadable, api.Shape}, {label.isClear, api.Count}}
}

// labelRules returns the rules of a tag.
func labelRules() []rule[label] {
	return append(readRules(), rule[label]{label.isPriced, api.Bound})
}

// isLong tells whether so many letters can be read on a tag.
func (l label) isLong() bool { return spans.Within(len(l.Reads), 1, api.MaxTagLong) }

// isReadable tells whether only letters are read, or cannot be read.
func (l label) isReadable() bool { return isReadable(l.Reads) }

// isClear tells whether not too many letters cannot be read.
func (l label) isClear() bool { return smudges(l.Reads) <= api.MaxTagSmudges }

// isPriced tells whether the price is a span that it can be.
func (l label) isPriced() bool { return spans.IsFrom(l.Price, 0, api.MaxTagPrice) }

// isLetter tells whether a rune is one of A to Z.
func isLetter(r rune) bool { return 'A' <= r && r <= 'Z' }

// areLetters tells whether each byte of a text is a letter.
func areLetters(text string) bool { return isReadable(text) && smudges(text) == 0 }

// isReadable tells whether each byte of a text is a letter or a smudge.
func isReadable(text string) bool {
	for _, r := range text {
		if r != smudge && !isLetter(r) {
			return false
		}
	}
	return true
}

// smudges returns how many letters of a text are not known.
func smudges(text string) int {
	many := 0
	for _, r := range text {
		if r == smudge {
			many++
		}
	}
	return many
}
