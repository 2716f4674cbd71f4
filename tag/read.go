package tag

import (
	"slices"
	"sync"

	"nosale/spans"
)

// none stands for the digit before the first letter of a tag.
const none = -1

// reading is letters that can stand on a tag: the number and the last digit that they stand for, and whether they are others than are read.
type reading struct {
	number, last int
	other        bool
}

// sign is a letter that can stand on tags, and the digit for which it stands in a word: none for the repeater.
type sign struct {
	letter rune
	stands int
}

// signs returns all letters that can stand on tags.
func (h house) signs(w word) []sign {
	var all []sign
	for i, l := range w {
		all = append(all, sign{rune(l), place(i).digit()})
	}
	for _, l := range h.Repeat {
		all = append(all, sign{l, none})
	}
	return all
}

// Kinds of letters behind a digit.
const (
	another = iota // a letter of the word that stands for another digit
	again          // a letter of the word that stands for the same digit
	repeats        // the repeater
	astray         // the repeater without a digit before it
)

// kindBehind returns the kind of the letter behind a digit.
func (s sign) kindBehind(before int) int {
	switch {
	case s.stands == none && before == none:
		return astray
	case s.stands == none:
		return repeats
	case s.stands == before:
		return again
	}
	return another
}

// with returns the reading with one more letter, and whether that can stand there.
func (h house) with(r reading, s sign) (reading, bool) {
	switch s.kindBehind(r.last) {
	case another:
		r.last = s.stands
	case again:
		if h.Repeat == "" {
			break
		}
		// Where there is a repeater no other letter writes a digit again.
		fallthrough
	case astray:
		return reading{}, false
	}
	r.number = r.number*base + r.last
	return r, true
}

// canBe tells whether a letter that is read can be the one that stands there.
func (h house) canBe(read, stands rune) bool {
	if read == smudge || read == stands {
		return true
	}
	one, other := string([]rune{read, stands}), string([]rune{stands, read})
	return slices.Contains(h.Alike, one) || slices.Contains(h.Alike, other)
}

// readings returns all letters that can stand, by a word, where this is read.
func (h house) readings(reads string, w word) []reading {
	all := []reading{{last: none}}
	for _, read := range reads {
		var longer []reading
		for _, s := range h.signs(w) {
			if !h.canBe(read, s.letter) {
				continue
			}
			other := read != smudge && read != s.letter
			for _, r := range all {
				if next, ok := h.with(r, s); ok {
					next.other = next.other || other
					longer = append(longer, next)
				}
			}
		}
		all = longer
	}
	return all
}

// spot is a tag as it is read by a word.
type spot struct {
	tag  int
	word word
}

// sight is what stands on a spot.
type sight struct {
	spot
	readings []reading
}

// meanings returns what each tag can mean by each word: the readings whose number is one of its price.
func (h house) meanings() map[spot][]reading {
	seen := make(chan []sight, len(h.Tags))
	var wait sync.WaitGroup
	for tag := range h.Tags {
		wait.Add(1)
		go func() {
			defer wait.Done()
			seen <- h.sights(tag)
		}()
	}
	wait.Wait()
	close(seen)
	all := map[spot][]reading{}
	for sights := range seen {
		for _, s := range sights {
			all[s.spot] = s.readings
		}
	}
	return all
}

// sights returns what a tag can mean by each word.
func (h house) sights(tag int) []sight {
	var all []sight
	t := h.Tags[tag]
	for w := range h.words() {
		costsElse := func(r reading) bool { return !spans.Has(t.Price, r.number) }
		fits := slices.DeleteFunc(h.readings(t.Reads, w), costsElse)
		all = append(all, sight{spot{tag, w}, fits})
	}
	return all
}
