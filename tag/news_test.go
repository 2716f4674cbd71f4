package tag_test

import (
	"slices"
	"strings"
	"testing"

	"nosale/api"
	"nosale/dice"
	"nosale/promises"
	"nosale/tag"
)

// P3.3: Clash returns the fewest tags that contradict each other, and of several such lists the least one.
func TestClash(t *testing.T) {
	const head = "house MAKEPROF?? IT -\n"
	const three = "house MAKEPRO??? FIT -\n"
	for _, x := range []struct {
		text string
		want []int
	}{
		{textH, nil}, {textG, nil}, {textC, []int{1, 2}}, {textK, nil}, {textOdd, []int{1}}, {textAll, nil},
		{textH + "tag MM 0..99999\n", []int{2}}, {textH + "tag MM 0..99999\ntag M 2\n", []int{2}},
		{head + "tag I 9\ntag I 0\n", []int{0, 1}}, {head + "tag I 9\ntag T 0\n", nil}, {head + "tag I 0..9\ntag I 9\ntag T 9\n", []int{1, 2}},
		// a single one is less than two with lesser indexes
		{head + "tag I 9\ntag I 0\ntag M 2\n", []int{2}},
		// of two pairs the one with the lesser indexes
		{head + "tag I 9\ntag T 0\ntag I 0\n", []int{0, 2}}, {head + "tag I 9\ntag I 0\ntag T 9\ntag T 0\n", []int{0, 1}},
		// three that clash, no two of which do: F is not 8 or 9, I is none of 8, 0, and so on
		{three + "tag F 8..9\ntag I 8..9\ntag T 8..9\n", []int{0, 1, 2}}, {three + "tag M 1\ntag F 8..9\ntag I 8..9\ntag A 2\ntag T 8..9\n", []int{1, 2, 4}},
		// four that clash
		{"house MAKEPR???? OFIT -\ntag O 7..9\ntag F 7..9\ntag P 5\ntag I 7..9\ntag T 7..9\n", []int{0, 1, 3, 4}},
	} {
		if list, l := tag.Clash(parse(t, x.text)); !slices.Equal(list, x.want) || l != api.Fine {
			t.Errorf("%q: %v, bell %d, want %v", x.text, list, l, x.want)
		}
	}
}

// P3.3: Ask returns the first tag that leaves the fewest words.
func TestAsk(t *testing.T) {
	for _, x := range []struct {
		text      string
		tag, left int
		l         api.Bell
	}{
		{textH, 0, 1, api.Fine}, {textG, -1, 1, api.Fine}, {textC, 0, 0, api.Odds}, {textOdd, 0, 0, api.Odds}, {textK, -1, 1, api.Fine}, {textSure, -1, 1, api.Fine},
		{"house ????PROFIT MAKE -\n", -1, 24, api.Fine}, {"house ????PROFIT MAKE -\ntag R 0..9\n", -1, 24, api.Fine}, {"house ????PROFIT MAKE -\ntag M 0..9\n", 0, 6, api.Fine}, {"house ????PROFIT MAKE -\ntag M 0..9\ntag MA 0..99\n", 1, 2, api.Fine}, {"house ????PROFIT MAKE -\ntag MA 0..99\ntag EK 0..99\n", 0, 2, api.Fine}, {"house ????PROFIT MAKE -\ntag P 5\ntag M 0..9\ntag A 0..9\n", 1, 6, api.Fine}, {"house ????PROFIT MAKE -\ntag M 0..9\ntag MA 0..99\ntag MAK 0..999\n", 2, 1, api.Fine}, {"house ????PROFIT MAKE -\ntag MAK 0..999\ntag MAKE 0..9999\n", 0, 1, api.Fine},
		// a number that several words have
		{"house MAKEPROF?? IT -\ntag ? 0..9\n", -1, 2, api.Fine}, {"house MAKEPROF?? IT -\nalike IT\ntag I 0..9\n", -1, 2, api.Fine}, {"house MAKEPROF?? IT -\nalike IM\ntag I 0..9\n", -1, 2, api.Fine}, {"house MAKEPROF?? IT -\nalike IM\ntag I 0\ntag I 0..9\n", -1, 1, api.Fine},
		// M is 1 or 2: if it is 1, two words are left, if it is 2, four
		{"house ????PROFIT MAKE -\ntag MA 12..21\ntag M 1..2\n", 0, 2, api.Fine},
	} {
		if i, n, l := tag.Ask(parse(t, x.text)); i != x.tag || n != x.left || l != x.l {
			t.Errorf("%q: %d, %d, bell %d, want %d, %d, %d", x.text, i, n, l, x.tag, x.left, x.l)
		}
	}
}

// newsCase is a house of which more is known, and its text then.
type newsCase struct {
	text, want string
	l          api.Bell
}

// is compares the house that a function returned with what is expected; old is the one that was handed in.
func (x newsCase) is(t *testing.T, old, h api.TagHouse, l api.Bell, asked ...any) {
	t.Helper()
	layer().News(t, promises.Case{Text: x.text, Want: x.want, Bell: x.l}, old, h, l, asked...)
}

// P3.3: Learn narrows the price of a tag.
func TestLearn(t *testing.T) {
	change := func(old, new string) string { return strings.Replace(textH, old, new, 1) }
	for _, x := range []struct {
		newsCase
		tag   int
		price api.Span
	}{
		{newsCase{textH, change("550..559", "559"), api.Fine}, 1, to(559, 559)}, {newsCase{textH, textH, api.Fine}, 1, to(0, 99999)}, {newsCase{textH, textH, api.Fine}, 1, to(550, 559)}, {newsCase{textH, change("0..99999", "300..400"), api.Fine}, 0, to(300, 400)}, {newsCase{textH, change("550..559", "550..555"), api.Fine}, 1, to(0, 555)}, {newsCase{textH, change("550..559", "555..559"), api.Fine}, 1, to(555, 99999)}, {newsCase{textH, change("550..559", "550"), api.Fine}, 1, to(0, 550)},
		// nothing in common, and no history
		{newsCase{textH, "", api.Odds}, 1, to(560, 570)}, {newsCase{textH, "", api.Odds}, 1, to(0, 549)}, {newsCase{textH, "", api.Odds}, 1, to(551, 558)}, {newsCase{textH, "", api.Odds}, 0, to(341, 348)}, {newsCase{textG, "", api.Odds}, 1, to(550, 550)}, {newsCase{textC, "", api.Odds}, 0, to(340, 340)},
		{newsCase{textH, "", api.Missing}, 2, to(-1, 1)}, {newsCase{textH, "", api.Missing}, -1, to(1, 1)}, {newsCase{textC, "", api.Missing}, 3, to(1, 1)}, {newsCase{textH, "", api.Bound}, 1, to(-1, 1)}, {newsCase{textH, "", api.Bound}, 1, to(1, 100000)}, {newsCase{textH, "", api.Bound}, 1, to(559, 550)}, {newsCase{textC, "", api.Bound}, 1, to(1, 0)}, {newsCase{textC, "", api.Odds}, 1, to(560, 560)},
	} {
		old := parse(t, x.text)
		h, l := tag.Learn(old, x.tag, x.price)
		x.is(t, old, h, l, x.tag, x.price)
	}
}

// P3.3: Know puts a spare letter in its place.
func TestKnow(t *testing.T) {
	change := func(new string) string { return strings.Replace(textH, "?? IT", new, 1) }
	const four = "house ?A??PROFIT KEM -\n"
	for _, x := range []struct {
		newsCase
		digit  int
		letter string
	}{
		{newsCase{textH, change("?T I"), api.Fine}, 0, "T"}, {newsCase{textH, change("T? I"), api.Fine}, 9, "T"}, {newsCase{textH, change("?I T"), api.Fine}, 0, "I"}, {newsCase{textH, change("I? T"), api.Fine}, 9, "I"}, {newsCase{textG, strings.Replace(textG, "?? IT", "I? T", 1), api.Fine}, 9, "I"},
		// what is known already
		{newsCase{textH, textH, api.Fine}, 1, "M"}, {newsCase{textH, textH, api.Fine}, 8, "F"}, {newsCase{textK, textK, api.Fine}, 0, "T"}, {newsCase{textK, textK, api.Fine}, 9, "I"},
		// the others stay in their order
		{newsCase{four, "house EA??PROFIT KM -\n", api.Fine}, 1, "E"}, {newsCase{four, "house ?A?KPROFIT EM -\n", api.Fine}, 4, "K"}, {newsCase{four, "house ?AM?PROFIT KE -\n", api.Fine}, 3, "M"},
		// the last one that is spare
		{newsCase{"house MAKEPROF?T I -\n", "house MAKEPROFIT - -\n", api.Fine}, 9, "I"},
		{newsCase{textH, "", api.Odds}, 1, "A"}, {newsCase{textH, "", api.Odds}, 9, "M"}, {newsCase{textH, "", api.Odds}, 1, "I"}, {newsCase{textH, "", api.Odds}, 9, "X"}, {newsCase{textH, "", api.Odds}, 9, "Z"}, {newsCase{textG, "", api.Odds}, 9, "T"}, {newsCase{textG, "", api.Odds}, 0, "I"}, {newsCase{textC, "", api.Odds}, 1, "M"}, {newsCase{textC, "", api.Odds}, 9, "I"},
		{newsCase{textH, "", api.Bound}, 10, "T"}, {newsCase{textH, "", api.Bound}, -1, ""}, {newsCase{textC, "", api.Bound}, 10, "m"}, {newsCase{textH, "", api.Shape}, 0, ""}, {newsCase{textH, "", api.Shape}, 0, "t"}, {newsCase{textH, "", api.Shape}, 9, "?"}, {newsCase{textH, "", api.Shape}, 9, "IT"}, {newsCase{textC, "", api.Shape}, 9, "?"},
	} {
		old := parse(t, x.text)
		h, l := tag.Know(old, x.digit, x.letter)
		x.is(t, old, h, l, x.digit, x.letter)
	}
}

// P3.3: Hang adds a tag at the end.
func TestHang(t *testing.T) {
	full := textK + strings.Repeat("tag M 1\n", api.MaxTagTags)
	for _, x := range []struct {
		newsCase
		reads string
		price api.Span
	}{
		{newsCase{textH, textG, api.Fine}, "?T", to(90, 90)}, {newsCase{textH, textH + "tag XX 0..99999\n", api.Odds}, "XX", to(0, 99999)}, {newsCase{textK, textK + "tag M 0..9\n", api.Fine}, "M", to(0, 9)}, {newsCase{textH, textH + "tag MAKEP 0..99999\n", api.Fine}, "MAKEP", to(0, 99999)}, {newsCase{strings.TrimSuffix(full, "tag M 1\n"), full, api.Fine}, "M", to(1, 1)},
		{newsCase{textH, "", api.Odds}, "MM", to(0, 90)}, {newsCase{textH, "", api.Odds}, "M", to(2, 99999)}, {newsCase{textG, "", api.Odds}, "T", to(9, 9)}, {newsCase{textC, "", api.Odds}, "M", to(0, 9)}, {newsCase{textOdd, "", api.Odds}, "M", to(1, 1)},
		{newsCase{textH, "", api.Count}, "", to(-1, 90)}, {newsCase{textH, "", api.Count}, "MAKEPR", to(0, 90)}, {newsCase{textH, "", api.Count}, "???", to(0, 90)}, {newsCase{textH, "", api.Shape}, "m", to(-1, 0)}, {newsCase{textH, "", api.Bound}, "M", to(9, 0)}, {newsCase{textH, "", api.Bound}, "M", to(0, 100000)}, {newsCase{textC, "", api.Shape}, "m", to(0, 9)}, {newsCase{textC, "", api.Bound}, "M", to(-1, 9)},
		// that there are too many tags is looked at before them
		{newsCase{full, "", api.Count}, "M", to(1, 1)}, {newsCase{full, "", api.Count}, "m", to(9, 0)},
	} {
		if x.l != api.Fine {
			x.want = ""
		}
		old := parse(t, x.text)
		h, l := tag.Hang(old, api.TagTag{Reads: x.reads, Price: x.price})
		x.is(t, old, h, l, x.reads, x.price)
	}
}

// P3.3: Clash and Ask return what all that is tried tells.
func TestNewsOfAnyHouse(t *testing.T) {
	d := dice.Dice(4)
	clashes, asks := map[int]int{}, map[bool]int{}
	for i := range 600 {
		h, _ := anyHouse(&d, true)
		if i%2 == 0 {
			h, _ = spareHouse(&d, i%4 == 0)
		}
		want := clashOf(h)
		clashes[len(want)]++
		if list, l := tag.Clash(h); !slices.Equal(list, want) || l != api.Fine {
			t.Errorf("%+v: %v, bell %d, want %v", h, list, l, want)
		}
		if len(want) > 0 {
			continue
		}
		index, left := askOf(h, pasts(h))
		asks[index >= 0]++
		if i, n, l := tag.Ask(h); i != index || n != left || l != api.Fine {
			t.Errorf("%+v: %d, %d, bell %d, want %d, %d", h, i, n, l, index, left)
		}
	}
	if clashes[0] < 100 || clashes[1] < 30 || clashes[2] < 30 || asks[true] < 50 || asks[false] < 50 {
		t.Errorf("there were too few houses: %v, %v", clashes, asks)
	}
}

// P3.3: Learn, Know and Hang return a house with the words that agree with what is new, or Odds.
func TestNewWordsOfAnyHouse(t *testing.T) {
	d := dice.Dice(5)
	bells := map[api.Bell]int{}
	same := func(name string, h, want, got api.TagHouse, l api.Bell) {
		t.Helper()
		odd := api.Fine
		if len(pasts(want)) == 0 {
			want, odd = api.TagHouse{}, api.Odds
		}
		bells[l]++
		if show(got) != show(want) || l != odd {
			t.Errorf("%+v, %s: %+v, bell %d, want %+v, %d", h, name, got, l, want, odd)
		}
	}
	for range 300 {
		h, real := anyHouse(&d, true)
		for i, x := range h.Tags {
			p := around(&d, real.tags[i].number)
			want := clone(h)
			want.Tags[i].Price = to(max(x.Price.Low, p.Low), min(x.Price.High, p.High))
			got, l := tag.Learn(h, i, p)
			same("Learn", h, want, got, l)
		}
		for digit := range 10 {
			letter := letterOf(real.word, digit)
			if d.Roll(3) == 0 && h.Spare != "" {
				letter = h.Spare[:1]
			}
			want := clone(h)
			place := (digit + 9) % 10
			if h.Letters[place] == '?' && strings.Contains(h.Spare, letter) {
				want.Letters = h.Letters[:place] + letter + h.Letters[place+1:]
				want.Spare = strings.ReplaceAll(h.Spare, letter, "")
			} else if h.Letters[place:place+1] != letter {
				continue
			}
			got, l := tag.Know(h, digit, letter)
			same("Know", h, want, got, l)
		}
		if len(h.Tags) < api.MaxTagTags {
			x, _ := anyTag(&d, h, real.word, 3)
			want := clone(h)
			want.Tags = append(want.Tags, x)
			got, l := tag.Hang(h, x)
			same("Hang", h, want, got, l)
		}
	}
	if bells[api.Fine] < 500 || bells[api.Odds] < 300 {
		t.Errorf("there were too few houses: %v", bells)
	}
}
