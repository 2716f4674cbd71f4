package tag_test

import (
	"math"
	"slices"
	"strings"
	"testing"

	"nosale/api"
	"nosale/dice"
	"nosale/oracle"
	"nosale/promises"
	"nosale/strip"
	"nosale/tag"
	"nosale/wheels"
)

// P0.1: each function returns, whatever it is called with, and returns the same to several goroutines; it changes nothing.
func TestAlwaysTheSame(t *testing.T) {
	d := dice.Dice(7)
	houses := []api.TagHouse{{}}
	for _, text := range texts() {
		houses = append(houses, parse(t, text))
	}
	for i, x := range bellCases() {
		h := parse(t, textH)
		x.change(&h)
		if x.want != api.Fine || i%5 == 0 {
			houses = append(houses, h)
		}
	}
	for i := range 6 {
		h, _ := anyHouse(&d, i%2 == 0)
		houses = append(houses, h)
	}
	layer().AlwaysTheSame(t, report, houses...)
}

// P0.1: numbers that are very great or very small, strings of any bytes, and slices that are very long, have a bell.
func TestGarbage(t *testing.T) {
	d := dice.Dice(8)
	odd := []int{math.MinInt, -1, 0, 0, 1, 9, 99999, 100000, math.MaxInt}
	some := func() int { return odd[d.Roll(len(odd))] }
	texts := []string{"", "?", "A", "M", "MA", "IT", "??", "\xff", "É", "MAKEPROFIT", "MAKEPROF??", "?????", "-", "x"}
	text := func() string { return texts[d.Roll(len(texts))] }
	for range 200 {
		h := api.TagHouse{Letters: text(), Spare: text(), Repeat: text()}
		if d.Roll(3) > 0 {
			h, _ = anyLetters(&d)
		}
		for range d.Roll(3) {
			h.Alike = append(h.Alike, text())
		}
		for range d.Roll(3) {
			h.Tags = append(h.Tags, api.TagTag{Reads: text(), Price: to(some(), some())})
		}
		report(h)
	}
	long := parse(t, textK)
	long.Tags = make([]api.TagTag, 1000000)
	if _, l := tag.Words(long); l != api.Count {
		t.Errorf("a million tags: bell %d", l)
	}
	long.Tags, long.Alike = nil, make([]string, 1000000)
	if _, l := tag.Words(long); l != api.Count {
		t.Errorf("a million pairs: bell %d", l)
	}
	if _, l := tag.Means(parse(t, textK), strings.Repeat("?", 1000000)); l != api.Count {
		t.Errorf("a million letters: bell %d", l)
	}
}

// R3: it makes no difference whether a slice is nil or empty.
func TestNilOrEmpty(t *testing.T) {
	none, empty := parse(t, textK), parse(t, textK)
	none.Alike, none.Tags = nil, nil
	empty.Alike, empty.Tags = []string{}, []api.TagTag{}
	if report(empty) != report(none) {
		t.Error("empty slices and none make a difference")
	}
}

// R4: houses that are returned share no memory with those that are handed in.
func TestNoSharedMemory(t *testing.T) {
	spoil := func(h api.TagHouse) {
		for i := range h.Alike {
			h.Alike[i] = "QQ"
		}
		for i := range h.Tags {
			h.Tags[i].Reads = "Q"
		}
	}
	news := func(h api.TagHouse) []api.TagHouse {
		hung, l := tag.Hang(h, api.TagTag{Reads: "?T", Price: to(90, 90)})
		learnt, l2 := tag.Learn(h, 0, to(0, api.MaxTagPrice))
		known, l3 := tag.Know(h, 1, "M")
		placed, l4 := tag.Know(h, 9, "I")
		if l+l2+l3+l4 != api.Fine {
			t.Fatal(l, l2, l3, l4)
		}
		return []api.TagHouse{hung, learnt, known, placed}
	}
	h := parse(t, textH)
	// room behind the elements must not be written to
	h.Tags = append(make([]api.TagTag, 0, 9), h.Tags...)
	room := h.Tags[:3]
	for _, o := range news(h) {
		spoil(o)
	}
	if text, _ := tag.Print(h); text != textH || room[2] != (api.TagTag{}) {
		t.Errorf("a result shares memory with the house: %q, %v", text, room)
	}
	all := news(h)
	spoil(h)
	for i, want := range []string{textG, textH, textH, strings.Replace(textH, "?? IT", "I? T", 1)} {
		if text, _ := tag.Print(all[i]); text != want {
			t.Errorf("the house shares memory with a result: %q", text)
		}
	}
}

// P3.5, P0.4: whatever the word is, and whatever really stands on the tags, is among all that is told.
func TestWhateverStandsThere(t *testing.T) {
	d := dice.Dice(9)
	for range 500 {
		h, real := anyHouse(&d, false)
		for digit := range 10 {
			letter := letterOf(real.word, digit)
			if s, l := tag.Letters(h, digit); !strings.Contains(s, letter) || l != api.Fine {
				t.Errorf("%+v, %v: Letters of %d are %q, bell %d", h, real, digit, s, l)
			}
			if list, l := tag.Digits(h, letter); !slices.Contains(list, digit) || l != api.Fine {
				t.Errorf("%+v, %v: Digits of %s are %v, bell %d", h, real, letter, list, l)
			}
			if _, l := tag.Know(h, digit, letter); l != api.Fine {
				t.Errorf("%+v, %v: %s cannot be known to be %d, bell %d", h, real, letter, digit, l)
			}
		}
		for i, x := range h.Tags {
			realTag(t, h, i, x.Reads, real.tags[i])
		}
		if list, l := tag.Clash(h); len(list) > 0 || l != api.Fine {
			t.Errorf("%+v, %v: %v clash, bell %d", h, real, list, l)
		}
	}
}

// realTag looks at what is told of a tag on which something really stands.
func realTag(t *testing.T, h api.TagHouse, i int, reads string, m meant) {
	t.Helper()
	if list, l := tag.Prices(h, i); !slices.Contains(list, m.number) || l != api.Fine {
		t.Errorf("%+v, tag %d: Prices are %v without %d, bell %d", h, i, list, m.number, l)
	}
	if list, l := tag.Means(h, reads); !slices.Contains(list, m.number) || l != api.Fine {
		t.Errorf("%+v, %q: Means are %v without %d, bell %d", h, reads, list, m.number, l)
	}
	if list, l := tag.Writes(h, m.number, len(reads)); !slices.Contains(list, m.stands) || l != api.Fine {
		t.Errorf("%+v: Writes are %q without %q, bell %d", h, list, m.stands, l)
	}
	if _, l := tag.Learn(h, i, to(m.number, m.number)); l != api.Fine {
		t.Errorf("%+v, tag %d: %d cannot be learnt, bell %d", h, i, m.number, l)
	}
	never := api.No
	for j := range reads {
		if reads[j] != '?' && reads[j] != m.stands[j] {
			never = api.Yes
		}
	}
	if sure, l := tag.Misread(h, i); sure != api.Open && sure != never || l != api.Fine {
		t.Errorf("%+v, tag %d, %q: misread %d, bell %d", h, i, m.stands, sure, l)
	}
}

// P3.6: each number and letter that is told is that of a history, and no other one is.
func TestNoOthers(t *testing.T) {
	d := dice.Dice(10)
	for range 300 {
		h, _ := anyHouse(&d, true)
		if n, _ := tag.Words(h); n == 0 {
			continue
		}
		for i := range h.Tags {
			list, _ := tag.Prices(h, i)
			for range 20 {
				// those that are told, and any others
				n := d.Roll(1000)
				if len(list) > 0 && d.Roll(2) == 0 {
					n = list[d.Roll(len(list))]
				}
				want := api.Odds
				if slices.Contains(list, n) {
					want = api.Fine
				}
				if _, l := tag.Learn(h, i, to(n, n)); l != want {
					t.Errorf("%+v, tag %d: %d of %v is learnt with bell %d", h, i, n, list, l)
				}
			}
		}
		for digit := range 10 {
			letters, _ := tag.Letters(h, digit)
			for letter := 'A'; letter <= 'Z'; letter++ {
				o, l := tag.Know(h, digit, string(letter))
				if strings.ContainsRune(letters, letter) != (l == api.Fine) {
					t.Errorf("%+v: %c, one of %s, is known for %d with bell %d", h, letter, letters, digit, l)
				}
				if s, _ := tag.Letters(o, digit); l == api.Fine && s != string(letter) {
					t.Errorf("%+v: the letters for %d are %s, not %c", o, digit, s, letter)
				}
			}
		}
	}
}

// P3.7: what is written by a word is read as the number, if nothing looks alike; no two numbers are written alike.
func TestThereAndBack(t *testing.T) {
	d := dice.Dice(11)
	for range 20 {
		h, real := anyLetters(&d)
		h.Letters, h.Spare, h.Alike = real.word, "", nil
		top := 1
		for long := 1; long <= api.MaxTagLong; long++ {
			top *= 10
			seen := map[string]int{}
			for i := range 300 {
				n := i * top / 300
				if d.Roll(2) == 0 {
					n = d.Roll(top)
				}
				texts, l := tag.Writes(h, n, long)
				if l != api.Fine || len(texts) != 1 || len(texts[0]) != long {
					t.Fatalf("%+v: %d with %d is written %q, bell %d", h, n, long, texts, l)
				}
				if back, l := tag.Means(h, texts[0]); !slices.Equal(back, []int{n}) || l != api.Fine {
					t.Errorf("%+v: %d is written %q, which means %v, bell %d", h, n, texts[0], back, l)
				}
				if is, l := tag.Plain(h, n, long); !is || l != api.Fine {
					t.Errorf("%+v: %d with %d is not plain, bell %d", h, n, long, l)
				}
				if other, found := seen[texts[0]]; found && other != n {
					t.Errorf("%+v: both %d and %d are written %q", h, n, other, texts[0])
				}
				seen[texts[0]] = n
			}
		}
	}
}

// noMore tells whether o, in which more is known than in h, makes nothing possible that was not, and takes back nothing that was sure.
func noMore(t *testing.T, h, o api.TagHouse, looks []string) {
	t.Helper()
	wrong := func(name string, values ...any) {
		t.Helper()
		t.Errorf("%+v, then %+v: %s %v", h, o, name, values)
	}
	before, _ := tag.Words(h)
	if n, l := tag.Words(o); n < 1 || n > before || l != api.Fine {
		wrong("Words", before, n, l)
	}
	was, _ := tag.Settled(h)
	if is, _ := tag.Settled(o); was && !is {
		wrong("Settled")
	}
	for digit := range 10 {
		all, _ := tag.Letters(h, digit)
		if few, _ := tag.Letters(o, digit); few == "" || !oracle.Within([]byte(few), []byte(all)) {
			wrong("Letters", digit, all, few)
		}
	}
	for letter := 'A'; letter <= 'Z'; letter++ {
		all, _ := tag.Digits(h, string(letter))
		if few, _ := tag.Digits(o, string(letter)); !oracle.Within(few, all) {
			wrong("Digits", string(letter), all, few)
		}
	}
	for i := range h.Tags {
		all, _ := tag.Prices(h, i)
		if few, _ := tag.Prices(o, i); len(few) == 0 || !oracle.Within(few, all) {
			wrong("Prices", i, all, few)
		}
		was, _ := tag.Misread(h, i)
		if is, _ := tag.Misread(o, i); was != api.Open && is != was {
			wrong("Misread", i, was, is)
		}
	}
	for _, reads := range looks {
		all, _ := tag.Means(h, reads)
		few, _ := tag.Means(o, reads)
		if !oracle.Within(few, all) {
			wrong("Means", reads, all, few)
		}
		for _, price := range all[:min(len(all), 3)] {
			all, _ := tag.Writes(h, price, len(reads))
			if few, _ := tag.Writes(o, price, len(reads)); len(few) == 0 || !oracle.Within(few, all) {
				wrong("Writes", price, all, few)
			}
			was, _ := tag.Plain(h, price, len(reads))
			if is, _ := tag.Plain(o, price, len(reads)); was && !is {
				wrong("Plain", price)
			}
		}
	}
}

// P3.8, P0.6: what is learnt never adds a word or a number, and takes back nothing; once the number that Ask asks for is known, no more words are left than it says.
func TestKnowingMore(t *testing.T) {
	d := dice.Dice(12)
	asked := 0
	for i := range 100 {
		h, real := anyHouse(&d, false)
		if i%2 == 0 {
			h, real = spareHouse(&d, false)
		}
		x, m := anyTag(&d, h, real.word, 3)
		looks := []string{x.Reads, m.stands, "?"}
		if len(h.Tags) < api.MaxTagTags {
			o, l := tag.Hang(h, x)
			if l != api.Fine {
				t.Fatalf("%+v: %v cannot be hung, bell %d", h, x, l)
			}
			noMore(t, h, o, looks)
		}
		digit := d.Roll(10)
		o, l := tag.Know(h, digit, letterOf(real.word, digit))
		if l != api.Fine {
			t.Fatalf("%+v: %d cannot be known, bell %d", h, digit, l)
		}
		noMore(t, h, o, looks)
		for i := range h.Tags {
			o, l := tag.Learn(h, i, around(&d, real.tags[i].number))
			if l != api.Fine {
				t.Fatalf("%+v: tag %d cannot be learnt, bell %d", h, i, l)
			}
			noMore(t, h, o, looks)
		}
		i, left, l := tag.Ask(h)
		if n, _ := tag.Words(h); l != api.Fine || i == -1 && left != n || i >= 0 && left >= n {
			t.Errorf("%+v: %d words, but Ask tells %d, %d, bell %d", h, n, i, left, l)
		}
		if i == -1 {
			continue
		}
		asked++
		list, _ := tag.Prices(h, i)
		most := 0
		for _, price := range list {
			o, _ := tag.Learn(h, i, to(price, price))
			n, l := tag.Words(o)
			most = max(most, n)
			if n > left || l != api.Fine {
				t.Errorf("%+v: %d words are left by %d, but Ask tells %d, bell %d", h, n, price, left, l)
			}
		}
		if most != left {
			t.Errorf("%+v: %d words are left at most, but Ask tells %d", h, most, left)
		}
	}
	if asked < 20 {
		t.Errorf("only %d houses were asked", asked)
	}
}

// P3.8: tags that clash have no history, and no fewer do.
func TestClashAlone(t *testing.T) {
	d := dice.Dice(13)
	clashes := map[int]int{}
	for i := range 500 {
		h, _ := anyHouse(&d, true)
		if i%2 == 0 {
			h, _ = spareHouse(&d, true)
		}
		list, l := tag.Clash(h)
		n, _ := tag.Words(h)
		if (len(list) > 0) != (n == 0) || l != api.Fine {
			t.Errorf("%+v: %d words, but %v clash, bell %d", h, n, list, l)
		}
		clashes[len(list)]++
		promises.Clash(t, show(h), len(h.Tags), list, func(some []int) int {
			n, _ := tag.Words(alone(h, some))
			return n
		})
	}
	if clashes[1] < 20 || clashes[2] < 50 {
		t.Errorf("there were too few clashes: %v", clashes)
	}
}

// P3.9: a price that is plain is read as itself by each word.
func TestPlain(t *testing.T) {
	d := dice.Dice(14)
	plain := 0
	for range 300 {
		h, real := anyHouse(&d, false)
		_, m := anyTag(&d, h, real.word, 3)
		long := len(m.stands)
		if is, _ := tag.Plain(h, m.number, long); !is {
			continue
		}
		plain++
		texts, _ := tag.Writes(h, m.number, long)
		for _, p := range pasts(h) {
			o := clone(h)
			o.Letters, o.Spare = p.word, ""
			if s, l := tag.Writes(o, m.number, long); len(s) != 1 || !slices.Contains(texts, s[0]) || l != api.Fine {
				t.Errorf("%+v: %d is written %q of %q, bell %d", o, m.number, s, texts, l)
			}
			for _, text := range texts {
				if list, l := tag.Means(o, text); len(list) > 1 || !oracle.Within(list, []int{m.number}) || l != api.Fine {
					t.Errorf("%+v: %q, which is %d, is read as %v, bell %d", o, text, m.number, list, l)
				}
			}
			if is, l := tag.Plain(o, m.number, long); !is || l != api.Fine {
				t.Errorf("%+v: %d with %d is no longer plain, bell %d", o, m.number, long, l)
			}
		}
	}
	if plain < 50 {
		t.Errorf("only %d prices were plain", plain)
	}
}

// turned returns the house with its tags, pairs, their letters, and spare letters in the opposite order.
func turned(h api.TagHouse) api.TagHouse {
	turn := func(text string) string {
		out := []byte(text)
		slices.Reverse(out)
		return string(out)
	}
	o := clone(h)
	slices.Reverse(o.Tags)
	slices.Reverse(o.Alike)
	for i, p := range o.Alike {
		o.Alike[i] = turn(p)
	}
	o.Spare = turn(o.Spare)
	return o
}

// P3.10: the order of tags, of pairs and of spare letters changes no more than indexes.
func TestAnyOrder(t *testing.T) {
	d := dice.Dice(15)
	for i := range 300 {
		h, real := anyHouse(&d, i%2 == 0)
		o := turned(h)
		x, m := anyTag(&d, h, real.word, 3)
		same := func(h api.TagHouse, index func(i int) int) string {
			var out []any
			put := func(values ...any) { out = append(out, values...) }
			n, l := tag.Words(h)
			is, l2 := tag.Settled(h)
			put(n, l, is, l2)
			for digit := range 10 {
				letters, l := tag.Letters(h, digit)
				digits, l2 := tag.Digits(h, letterOf(real.word, digit))
				put(letters, l, digits, l2)
			}
			for i := range h.Tags {
				list, l := tag.Prices(h, index(i))
				sure, l2 := tag.Misread(h, index(i))
				put(list, l, sure, l2)
			}
			list, l := tag.Means(h, x.Reads)
			texts, l2 := tag.Writes(h, m.number, len(x.Reads))
			is, l3 := tag.Plain(h, m.number, len(x.Reads))
			put(list, l, texts, l2, is, l3)
			list, l = tag.Clash(h)
			_, left, l2 := tag.Ask(h)
			put(len(list), l, left, l2)
			return show(out...)
		}
		back := func(i int) int { return len(h.Tags) - 1 - i }
		if one, other := same(h, func(i int) int { return i }), same(o, back); one != other {
			t.Errorf("%+v: %s, in the other order %s", h, one, other)
		}
		list, _ := tag.Clash(o)
		for i := range list {
			list[i] = back(list[i])
		}
		if n, _ := tag.Words(alone(h, list)); len(list) > 0 && n > 0 {
			t.Errorf("%+v: %v clash in the other order only", h, list)
		}
	}
}

// P0.5: what a house leaves open is found once more is learnt.
func TestWhatIsMissing(t *testing.T) {
	h := parse(t, textH)
	if is, _ := tag.Settled(h); is {
		t.Error("H is settled")
	}
	i, left, _ := tag.Ask(h)
	o, l := tag.Learn(h, i, to(380, 380))
	if n, _ := tag.Words(o); n != 1 || left != 1 || l != api.Fine {
		t.Errorf("%d words, %d were to be left, bell %d", n, left, l)
	}
	if s, _ := tag.Letters(o, 0); s != "T" {
		t.Errorf("the letters for 0 are %s", s)
	}
	if sure, _ := tag.Misread(o, 0); sure != api.Yes {
		t.Errorf("misread: %d", sure)
	}
	if is, _ := tag.Plain(o, 90, 2); !is {
		t.Error("90 is not plain")
	}
}

// P0.4, P0.5: what a strip and wheels tell of a price is so together with what its tag tells, and settles it.
func TestPriceOfOtherBooks(t *testing.T) {
	d := dice.Dice(16)
	for range 200 {
		h, real := anyHouse(&d, false)
		for i, m := range real.tags {
			if m.number == 0 {
				continue
			}
			sold := api.StripBook{Last: 99, First: 1, Digits: 4, Clerks: 1, Articles: []api.StripArticle{{Price: m.number}}, Items: []api.StripItem{{Torn: true, Many: to(1, 1)}}}
			took, l := strip.Took(sold, 0)
			ten := api.WheelsWheel{Base: 10}
			rung := api.WheelsBook{Wheels: []api.WheelsWheel{ten, ten, ten}, Start: []int{0, 0, 0}, Rings: []api.WheelsRing{{Keys: []int{m.number % 10, m.number / 10 % 10, m.number / 100}}}}
			shown, l2 := wheels.Shows(rung, 1)
			if l+l2 != api.Fine {
				t.Fatal(l, l2)
			}
			for _, price := range []api.Span{took, to(shown[0], shown[0])} {
				o, l := tag.Learn(h, i, price)
				if list, _ := tag.Prices(o, i); !slices.Equal(list, []int{m.number}) || l != api.Fine {
					t.Errorf("%+v, tag %d: %v once %v is learnt, bell %d", h, i, list, price, l)
				}
			}
		}
	}
}
