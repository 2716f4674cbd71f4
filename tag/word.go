package tag

import (
	"iter"
	"slices"
	"strconv"
	"strings"

	"nosale/api"
	"nosale/spans"
)

// base is how many digits there are.
const base = 10

// word is the letters of a house, for the digits 1 to 9 and 0.
type word [base]byte

// place is the index of a letter in a word.
type place int

// placeOf returns the place of the letter that stands for a digit.
func placeOf(digit int) place { return place((digit + base - 1) % base) }

// digit returns the digit for which the letter at the place stands.
func (p place) digit() int { return (int(p) + 1) % base }

// letters returns the letter at the place, as a list.
func (p place) letters(w word) []string { return []string{string(w[p])} }

// char is one of the letters A to Z.
type char byte

// digits returns the digit for which the letter stands, as a list; none if it stands for none.
func (c char) digits(w word) []int {
	i := slices.Index(w[:], byte(c))
	if i < 0 {
		return nil
	}
	return []int{place(i).digit()}
}

// isDigit tells whether a number is a digit.
func isDigit(n int) bool { return spans.Within(n, 0, base-1) }

// isOneLetter tells whether a text is one letter.
func isOneLetter(text string) bool { return len(text) == 1 && areLetters(text) }

// words yields all words that are possible, whatever stands on tags.
func (h house) words() iter.Seq[word] {
	return func(yield func(word) bool) {
		// fill goes on with a place, when these letters are still spare, and tells whether more is wanted.
		var fill func(w word, at int, spare string) bool
		fill = func(w word, at int, spare string) bool {
			if at == len(w) {
				return yield(w)
			}
			w[at] = h.Letters[at]
			if w[at] != smudge {
				return fill(w, at+1, spare)
			}
			for i := range spare {
				w[at] = spare[i]
				if !fill(w, at+1, spare[:i]+spare[i+1:]) {
					return false
				}
			}
			return true
		}
		fill(word{}, 0, h.Spare)
	}
}

// know returns the house in which a letter stands at a place, and whether it can.
func (h house) know(p place, letter string) (house, bool) {
	if h.Letters[p:p+1] == letter {
		return h, true
	}
	if h.Letters[p] != smudge || !strings.Contains(h.Spare, letter) {
		return house{}, false
	}
	h.Letters = h.Letters[:p] + letter + h.Letters[p+1:]
	h.Spare = strings.Replace(h.Spare, letter, "", 1)
	return h, true
}

// amount is a price that is to be written in a house, with so many letters.
type amount struct {
	house
	price, long int
}

// bell returns the bell of the amount in a house that has none.
func (a amount) bell() api.Bell {
	if !spans.Within(a.price, 0, api.MaxTagPrice) || !spans.Within(a.long, 1, api.MaxTagLong) {
		return api.Bound
	}
	if len(strconv.Itoa(a.price)) > a.long {
		return api.Short
	}
	return api.Fine
}

// written returns how the amount is written by a word, as a list.
func (a amount) written(w word) []string {
	digits := strconv.Itoa(a.price)
	digits = strings.Repeat("0", a.long-len(digits)) + digits
	var text strings.Builder
	before := ' '
	for _, d := range digits {
		if d == before && a.Repeat != "" {
			text.WriteString(a.Repeat)
		} else {
			text.WriteByte(w[placeOf(int(d-'0'))])
		}
		before = d
	}
	return []string{text.String()}
}
