package tag_test

import (
	"slices"
	"testing"

	"nosale/api"
	"nosale/dice"
	"nosale/tag"
)

// P3.1: Words and Settled return what is told of the words of histories.
func TestWords(t *testing.T) {
	for _, x := range []struct {
		text    string
		words   int
		settled bool
		l       api.Bell
	}{
		{textH, 2, false, api.Fine}, {textG, 1, true, api.Fine}, {textC, 0, false, api.Odds}, {textK, 1, true, api.Fine}, {textOdd, 0, false, api.Odds}, {textSure, 1, true, api.Fine},
		{"house ????PROFIT MAKE -\n", 24, false, api.Fine}, {"house ???EPROFIT MAK -\n", 6, false, api.Fine}, {"house ?AKEPROFIT M -\n", 1, true, api.Fine},
		// letters of tags say where spare ones stand
		{"house ????PROFIT MAKE -\ntag MA 12\n", 2, false, api.Fine}, {"house ????PROFIT MAKE -\ntag MA 12\ntag K 3\n", 1, true, api.Fine}, {"house ????PROFIT MAKE -\ntag M 1..4\n", 24, false, api.Fine}, {"house ????PROFIT MAKE -\ntag M 2..3\n", 12, false, api.Fine}, {"house ????PROFIT MAKE -\ntag M 5\n", 0, false, api.Odds},
		// a repeater stands for no digit of its own
		{"house MAKEPROF?? IT X\ntag IX 99\n", 1, true, api.Fine}, {"house MAKEPROF?? IT X\ntag IX 0..99\n", 2, false, api.Fine}, {"house MAKEPROF?? IT X\ntag X 0..99\n", 0, false, api.Odds}, {"house MAKEPROF?? IT X\ntag II 0..99\n", 0, false, api.Odds}, {"house MAKEPROF?? IT -\ntag II 0..99\n", 2, false, api.Fine}, {"house MAKEPROF?? IT -\ntag II 99\n", 1, true, api.Fine},
		// letters look alike, so that either can stand there
		{"house MAKEPROF?? IT -\nalike IT\ntag I 9\n", 2, false, api.Fine}, {"house MAKEPROF?? IT -\nalike TI\ntag I 9\n", 2, false, api.Fine}, {"house MAKEPROF?? IT -\nalike IQ\nalike QT\ntag I 9\n", 1, true, api.Fine}, {"house MAKEPROF?? IT -\nalike IQ\nalike QT\ntag Q 9\n", 2, false, api.Fine},
	} {
		h := parse(t, x.text)
		if n, l := tag.Words(h); n != x.words || l != x.l {
			t.Errorf("%q: %d words, bell %d, want %d, %d", x.text, n, l, x.words, x.l)
		}
		if is, l := tag.Settled(h); is != x.settled || l != x.l {
			t.Errorf("%q: settled %v, bell %d, want %v, %d", x.text, is, l, x.settled, x.l)
		}
	}
}

// P3.1: Letters returns the letters that stand for a digit.
func TestLetters(t *testing.T) {
	for _, x := range []struct {
		text  string
		digit int
		want  string
		l     api.Bell
	}{
		{textH, 9, "IT", api.Fine}, {textG, 9, "I", api.Fine}, {textG, 0, "T", api.Fine}, {textH, 0, "IT", api.Fine}, {textH, 1, "M", api.Fine}, {textH, 8, "F", api.Fine},
		{textK, 0, "T", api.Fine}, {textK, 9, "I", api.Fine}, {textAll, 1, "ABIJ", api.Fine}, {textH, 10, "", api.Bound}, {textH, -1, "", api.Bound}, {textC, 1, "", api.Odds}, {textC, 10, "", api.Bound},
		{"house ????PROFIT MAKE -\n", 3, "AEKM", api.Fine}, {"house ????PROFIT MAKE -\ntag MA 12\n", 3, "EK", api.Fine}, {"house ????PROFIT MAKE -\ntag MA 12\n", 1, "M", api.Fine},
	} {
		if s, l := tag.Letters(parse(t, x.text), x.digit); s != x.want || l != x.l {
			t.Errorf("%q, %d: %q, bell %d, want %q, %d", x.text, x.digit, s, l, x.want, x.l)
		}
	}
}

// P3.1: Digits returns the digits for which a letter stands.
func TestDigits(t *testing.T) {
	for _, x := range []struct {
		text, letter string
		want         []int
		l            api.Bell
	}{
		{textH, "T", []int{0, 9}, api.Fine}, {textG, "T", []int{0}, api.Fine}, {textH, "M", []int{1}, api.Fine}, {textH, "F", []int{8}, api.Fine},
		// the repeater, and a letter of no digit
		{textH, "X", nil, api.Fine}, {textH, "Z", nil, api.Fine}, {textK, "A", []int{2}, api.Fine}, {textK, "T", []int{0}, api.Fine}, {textAll, "A", []int{1, 2, 3, 4}, api.Fine},
		{textH, "", nil, api.Shape}, {textH, "MA", nil, api.Shape}, {textH, "m", nil, api.Shape}, {textH, "?", nil, api.Shape}, {textC, "M", nil, api.Odds}, {textC, "m", nil, api.Shape},
		{"house ????PROFIT MAKE -\ntag MA 12\n", "E", []int{3, 4}, api.Fine},
	} {
		if list, l := tag.Digits(parse(t, x.text), x.letter); !slices.Equal(list, x.want) || l != x.l {
			t.Errorf("%q, %q: %v, bell %d, want %v, %d", x.text, x.letter, list, l, x.want, x.l)
		}
	}
}

// P3.1: Words, Settled, Letters and Digits return what all words that are tried tell.
func TestWordsOfAnyHouse(t *testing.T) {
	d := dice.Dice(1)
	settled := map[bool]int{}
	for i := range 600 {
		h, _ := anyHouse(&d, i%2 == 0)
		all := pasts(h)
		odd := api.Fine
		if len(all) == 0 {
			odd = api.Odds
		}
		if n, l := tag.Words(h); n != len(all) || l != odd {
			t.Errorf("%+v: %d words, bell %d, want %d", h, n, l, len(all))
		}
		is, l := tag.Settled(h)
		if is != (len(all) == 1) || l != odd {
			t.Errorf("%+v: settled %v, bell %d", h, is, l)
		}
		settled[is]++
		for digit := range 10 {
			if s, l := tag.Letters(h, digit); s != lettersOf(all, digit) || l != odd {
				t.Errorf("%+v, %d: %q, bell %d", h, digit, s, l)
			}
		}
		for letter := 'A'; letter <= 'Z'; letter++ {
			if list, l := tag.Digits(h, string(letter)); !slices.Equal(list, digitsOf(all, string(letter))) || l != odd {
				t.Errorf("%+v, %c: %v, bell %d", h, letter, list, l)
			}
		}
	}
	if settled[true] < 100 || settled[false] < 100 {
		t.Errorf("there were too few houses: %v", settled)
	}
}
