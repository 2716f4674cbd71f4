package tag_test

import (
	"slices"
	"strings"

	"nosale/api"
	"nosale/dice"
)

// The oracle tries all orders of the spare letters, and all numbers that a tag can have, each as it is written; it calls nothing of the package.

// ordersOf returns all orders of the letters of a text.
func ordersOf(text string) []string {
	if text == "" {
		return []string{""}
	}
	var all []string
	for _, rest := range ordersOf(text[1:]) {
		for i := range len(rest) + 1 {
			all = append(all, rest[:i]+text[:1]+rest[i:])
		}
	}
	return all
}

// possibleWords returns the words of a house, whatever stands on tags.
func possibleWords(h api.TagHouse) []string {
	var all []string
	for _, order := range ordersOf(h.Spare) {
		word := h.Letters
		for _, l := range order {
			word = strings.Replace(word, "?", string(l), 1)
		}
		all = append(all, word)
	}
	return all
}

// letterOf returns the letter of a word for a digit.
func letterOf(word string, digit int) string {
	if digit == 0 {
		return word[9:]
	}
	return word[digit-1 : digit]
}

// write returns how a number is written with so many letters by a word; nothing if it has more digits.
func write(h api.TagHouse, word string, n, long int) string {
	var text string
	for range long {
		text = letterOf(word, n%10) + text
		n /= 10
	}
	if n > 0 {
		return ""
	}
	out := []byte(text)
	for i := 1; i < long; i++ {
		if h.Repeat != "" && text[i] == text[i-1] {
			out[i] = h.Repeat[0]
		}
	}
	return string(out)
}

// canBe tells whether what is read can be what stands there.
func canBe(h api.TagHouse, reads, stands string) bool {
	for i := range reads {
		alike := false
		for _, p := range h.Alike {
			if p[0] == reads[i] && p[1] == stands[i] || p[1] == reads[i] && p[0] == stands[i] {
				alike = true
			}
		}
		if reads[i] != '?' && reads[i] != stands[i] && !alike {
			return false
		}
	}
	return true
}

// meant is a number that a tag can have by a word, and what stands there then.
type meant struct {
	number int
	stands string
}

// meanings returns what can stand, by a word, where this is read.
func meanings(h api.TagHouse, word, reads string) []meant {
	var all []meant
	for n := 0; ; n++ {
		stands := write(h, word, n, len(reads))
		if stands == "" {
			return all
		}
		if canBe(h, reads, stands) {
			all = append(all, meant{n, stands})
		}
	}
}

// onTag returns what can stand on a tag by a word.
func onTag(h api.TagHouse, word string, t api.TagTag) []meant {
	var all []meant
	for _, m := range meanings(h, word, t.Reads) {
		if m.number >= t.Price.Low && m.number <= t.Price.High {
			all = append(all, m)
		}
	}
	return all
}

// past is a word of histories, and what can stand on each tag then.
type past struct {
	word string
	tags [][]meant
}

// pasts returns the words of all histories of a house.
func pasts(h api.TagHouse) []past {
	var all []past
	for _, word := range possibleWords(h) {
		p := past{word: word}
		possible := true
		for _, t := range h.Tags {
			p.tags = append(p.tags, onTag(h, word, t))
			possible = possible && len(p.tags[len(p.tags)-1]) > 0
		}
		if possible {
			all = append(all, p)
		}
	}
	return all
}

// sorted returns a list ascending, each once.
func sorted[E int | string](list []E) []E {
	slices.Sort(list)
	return slices.Compact(list)
}

// lettersOf returns the letters for a digit, as one text.
func lettersOf(all []past, digit int) string {
	var list []string
	for _, p := range all {
		list = append(list, letterOf(p.word, digit))
	}
	return strings.Join(sorted(list), "")
}

// digitsOf returns the digits for which a letter stands.
func digitsOf(all []past, letter string) []int {
	var list []int
	for _, p := range all {
		for digit := range 10 {
			if letterOf(p.word, digit) == letter {
				list = append(list, digit)
			}
		}
	}
	return sorted(list)
}

// pricesOf returns the numbers of a tag.
func pricesOf(all []past, tag int) []int {
	var list []int
	for _, p := range all {
		for _, m := range p.tags[tag] {
			list = append(list, m.number)
		}
	}
	return sorted(list)
}

// meansOf returns the numbers of what can stand where this is read.
func meansOf(h api.TagHouse, all []past, reads string) []int {
	var list []int
	for _, p := range all {
		for _, m := range meanings(h, p.word, reads) {
			list = append(list, m.number)
		}
	}
	return sorted(list)
}

// writesOf returns how a price is written.
func writesOf(h api.TagHouse, all []past, price, long int) []string {
	var list []string
	for _, p := range all {
		list = append(list, write(h, p.word, price, long))
	}
	return sorted(list)
}

// misreadOf returns how sure it is that other letters stand on a tag.
func misreadOf(h api.TagHouse, all []past, tag int) api.Sure {
	seen := map[bool]bool{}
	for _, p := range all {
		for _, m := range p.tags[tag] {
			other := false
			for i, l := range []byte(h.Tags[tag].Reads) {
				other = other || l != '?' && l != m.stands[i]
			}
			seen[other] = true
		}
	}
	switch {
	case seen[true] && seen[false]:
		return api.Open
	case seen[true]:
		return api.Yes
	}
	return api.No
}

// plainOf tells whether a price is read as no other one.
func plainOf(h api.TagHouse, all []past, price, long int) bool {
	for _, text := range writesOf(h, all, price, long) {
		if !slices.Equal(meansOf(h, all, text), []int{price}) {
			return false
		}
	}
	return true
}

// alone returns the house with some tags alone.
func alone(h api.TagHouse, list []int) api.TagHouse {
	o := clone(h)
	o.Tags = nil
	for _, i := range list {
		o.Tags = append(o.Tags, h.Tags[i])
	}
	return o
}

// clashOf returns the fewest tags that contradict each other: all lists of indexes are tried, the shorter ones first, the lesser ones first.
func clashOf(h api.TagHouse) []int {
	if len(pasts(h)) > 0 {
		return nil
	}
	lists := [][]int{nil}
	for len(lists) > 0 {
		var longer [][]int
		for _, list := range lists {
			if len(pasts(alone(h, list))) == 0 {
				return list
			}
			next := 0
			if len(list) > 0 {
				next = list[len(list)-1] + 1
			}
			for i := next; i < len(h.Tags); i++ {
				longer = append(longer, append(slices.Clone(list), i))
			}
		}
		lists = longer
	}
	panic("no tags clash")
}

// askOf returns the tag that is to be asked for, and how many words are left then.
func askOf(h api.TagHouse, all []past) (tag, left int) {
	tag, left = -1, len(all)
	for i := range h.Tags {
		worst := 0
		for _, n := range pricesOf(all, i) {
			words := 0
			for _, p := range all {
				if slices.ContainsFunc(p.tags[i], func(m meant) bool { return m.number == n }) {
					words++
				}
			}
			worst = max(worst, words)
		}
		if worst < left {
			tag, left = i, worst
		}
	}
	return tag, left
}

// truth is the word of a house, and what really stands on each tag.
type truth struct {
	word string
	tags []meant
}

// shuffled returns the letters of a text in any order.
func shuffled(d *dice.Dice, text string) string {
	out := []byte(text)
	for i := range out {
		j := d.Roll(i + 1)
		out[i], out[j] = out[j], out[i]
	}
	return string(out)
}

// anyLetters returns a house without tags, and its word.
func anyLetters(d *dice.Dice) (api.TagHouse, truth) {
	all := shuffled(d, "ABCDEFGHIJKLMNOPQRSTUVWXYZ")
	h := api.TagHouse{Letters: all[:10]}
	for _, place := range []int{d.Roll(10), d.Roll(10), d.Roll(10), d.Roll(10)}[:d.Roll(5)] {
		if h.Letters[place] != '?' {
			h.Spare += h.Letters[place : place+1]
			h.Letters = h.Letters[:place] + "?" + h.Letters[place+1:]
		}
	}
	h.Spare = shuffled(d, h.Spare)
	if d.Roll(3) > 0 {
		h.Repeat = all[10:11]
	}
	// some look like a letter that stands on no tag
	near := all[:12] + strings.Repeat(h.Spare, 2)
	for range d.Roll(api.MaxTagAlike + 1) {
		i, j := d.Roll(len(near)), d.Roll(len(near))
		p, back := near[i:i+1]+near[j:j+1], near[j:j+1]+near[i:i+1]
		if p != back && !slices.Contains(h.Alike, p) && !slices.Contains(h.Alike, back) {
			h.Alike = append(h.Alike, p)
		}
	}
	return h, truth{word: all[:10]}
}

// blur returns what is read where this stands: some letters look like others, some cannot be read.
func blur(d *dice.Dice, h api.TagHouse, stands string) string {
	out := []byte(stands)
	for i := range out {
		for _, p := range h.Alike {
			if j := strings.IndexByte(p, stands[i]); j >= 0 && d.Roll(2) == 0 {
				out[i] = p[1-j]
			}
		}
	}
	for range d.Roll(api.MaxTagSmudges + 1) {
		if d.Roll(2) == 0 {
			out[d.Roll(len(out))] = '?'
		}
	}
	return string(out)
}

// around returns a span in which a price is.
func around(d *dice.Dice, n int) api.Span {
	wide := []int{1, 2, 10, 200, 100000}[d.Roll(5)]
	return to(max(0, n-d.Roll(wide)), min(api.MaxTagPrice, n+d.Roll(wide)))
}

// anyTag returns a tag as it is read, and what really stands on it; it has at most so many letters.
func anyTag(d *dice.Dice, h api.TagHouse, word string, most int) (api.TagTag, meant) {
	long, top := 1+d.Roll(most), 1
	for range long {
		top *= 10
	}
	n := d.Roll(top)
	if digits := digitsOf([]past{{word: word}}, h.Spare[:min(1, len(h.Spare))]); d.Roll(3) == 0 && len(digits) > 0 {
		// a letter whose digit is not known stands at the end
		n += digits[0] - n%10
	} else if d.Roll(4) == 0 {
		// the same digit several times
		n = n / 100 * 111 % top
	}
	stands := write(h, word, n, long)
	return api.TagTag{Reads: blur(d, h, stands), Price: around(d, n)}, meant{n, stands}
}

// anyHouse returns a house without a bell, and what is really so; if lies is true, what is read on tags, and their prices, can be false.
func anyHouse(d *dice.Dice, lies bool) (api.TagHouse, truth) {
	h, real := anyLetters(d)
	words := possibleWords(h)
	for range d.Roll(api.MaxTagTags + 1) {
		word := real.word
		if lies && d.Roll(2) == 0 {
			word = words[d.Roll(len(words))]
		}
		t, m := anyTag(d, h, word, 3)
		if lies && d.Roll(10) == 0 {
			t.Price = around(d, d.Roll(100))
		}
		if lies && d.Roll(20) == 0 {
			t.Reads = shuffled(d, h.Spare+real.word)[:len(t.Reads)]
		}
		h.Tags = append(h.Tags, t)
		real.tags = append(real.tags, m)
	}
	return h, real
}

// spareHouse returns a house on whose tags stand spare letters alone, and the word; if lies is true, tags can be written by other words than that.
func spareHouse(d *dice.Dice, lies bool) (api.TagHouse, truth) {
	h, real := anyLetters(d)
	for len(h.Spare) < 2 {
		h, real = anyLetters(d)
	}
	h.Alike = h.Alike[:min(len(h.Alike), d.Roll(2))]
	words := possibleWords(h)
	for range 1 + d.Roll(api.MaxTagTags) {
		word := real.word
		if lies {
			word = words[d.Roll(len(words))]
		}
		stands := shuffled(d, h.Spare)[:1+d.Roll(2)]
		n := 0
		for _, l := range stands {
			n = n*10 + digitsOf([]past{{word: word}}, string(l))[0]
		}
		price := to(max(0, n-d.Roll(1+d.Roll(9))), n+d.Roll(1+d.Roll(9)))
		if !lies && d.Roll(3) > 0 {
			price = to(0, 99)
		}
		h.Tags = append(h.Tags, api.TagTag{Reads: stands, Price: price})
		real.tags = append(real.tags, meant{n, stands})
	}
	return h, real
}
