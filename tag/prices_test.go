package tag_test

import (
	"slices"
	"strings"
	"testing"

	"nosale/api"
	"nosale/dice"
	"nosale/tag"
)

// P3.2: Prices and Misread return what is told of a tag.
func TestPrices(t *testing.T) {
	const x = "house MAKEPROFIT - X\n"
	for _, c := range []struct {
		text    string
		tag     int
		prices  []int
		misread api.Sure
		l       api.Bell
	}{
		{textH, 0, []int{340, 349, 380, 389}, api.Open, api.Fine}, {textG, 0, []int{340, 380}, api.Open, api.Fine}, {textH, 1, []int{550, 559}, api.No, api.Fine}, {textG, 1, []int{559}, api.No, api.Fine}, {textG, 2, []int{90}, api.No, api.Fine},
		{textH, 2, nil, 0, api.Missing}, {textH, -1, nil, 0, api.Missing}, {textC, 0, nil, 0, api.Odds}, {textC, 3, nil, 0, api.Missing}, {textOdd, 0, nil, 0, api.Odds}, {textK, 0, nil, 0, api.Missing},
		// noughts ahead, and repeated digits
		{textK + "tag TTM 0..99999\n", 0, []int{1}, api.No, api.Fine}, {x + "tag TXM 0..99999\n", 0, []int{1}, api.No, api.Fine}, {x + "tag TXXXX 0\n", 0, []int{0}, api.No, api.Fine}, {x + "tag MXXXX 0..99999\n", 0, []int{11111}, api.No, api.Fine}, {textK + "tag IIIII 0..99999\n", 0, []int{99999}, api.No, api.Fine}, {x + "tag MKX 133\n", 0, []int{133}, api.No, api.Fine}, {x + "tag MXK 0..99999\n", 0, []int{113}, api.No, api.Fine},
		{x + "tag MM 0..99999\n", 0, nil, 0, api.Odds}, {x + "tag X 0..99999\n", 0, nil, 0, api.Odds}, {textK + "tag MX 0..99999\n", 0, nil, 0, api.Odds}, {textK + "tag Z 0..99999\n", 0, nil, 0, api.Odds},
		// the limits of the price belong to it
		{textK + "tag ? 3..6\n", 0, []int{3, 4, 5, 6}, api.No, api.Fine}, {textK + "tag M? 12..13\n", 0, []int{12, 13}, api.No, api.Fine}, {textK + "tag M? 20..29\n", 0, nil, 0, api.Odds},
		// letters that cannot be read: a letter again is the repeater
		{x + "tag M? 0..99\n", 0, []int{10, 11, 12, 13, 14, 15, 16, 17, 18, 19}, api.No, api.Fine}, {x + "tag ?M 0..99\n", 0, []int{1, 21, 31, 41, 51, 61, 71, 81, 91}, api.No, api.Fine}, {x + "tag ?X 0..99\n", 0, []int{0, 11, 22, 33, 44, 55, 66, 77, 88, 99}, api.No, api.Fine}, {x + "tag ?? 40..45\n", 0, []int{40, 41, 42, 43, 44, 45}, api.No, api.Fine},
		// letters that look alike
		{x + "alike EF\ntag KE 38..39\n", 0, []int{38}, api.Yes, api.Fine}, {x + "alike EF\ntag KE 34..39\n", 0, []int{34, 38}, api.Open, api.Fine}, {x + "alike EF\ntag KE 34..37\n", 0, []int{34}, api.No, api.Fine}, {x + "alike FE\ntag FE 0..99999\n", 0, []int{48, 84}, api.Open, api.Fine}, {x + "alike FE\ntag FE 84\n", 0, []int{84}, api.No, api.Fine}, {x + "alike FE\ntag FE 48\n", 0, []int{48}, api.Yes, api.Fine},
		{x + "alike ZM\ntag Z 0..9\n", 0, []int{1}, api.Yes, api.Fine}, {x + "alike XM\ntag XM 0..99\n", 0, []int{11}, api.Yes, api.Fine}, {x + "alike XM\ntag MM 0..99\n", 0, []int{11}, api.Yes, api.Fine}, {x + "alike XM\ntag M? 11..12\n", 0, []int{11, 12}, api.No, api.Fine}, {x + "alike XQ\ntag MQ 0..99\n", 0, []int{11}, api.Yes, api.Fine},
		// they need not look alike because they look like a third one
		{x + "alike MQ\nalike QA\ntag M 0..9\n", 0, []int{1}, api.No, api.Fine}, {x + "alike MQ\nalike QA\ntag Q 0..9\n", 0, []int{1, 2}, api.Yes, api.Fine}, {x + "alike MA\nalike AK\ntag A 0..9\n", 0, []int{1, 2, 3}, api.Open, api.Fine}, {x + "alike MA\nalike AK\ntag M 0..9\n", 0, []int{1, 2}, api.Open, api.Fine},
		// what another tag tells of the word
		{"house MAKEPROF?? IT -\nalike IM\ntag I 0..9\ntag T 0\n", 0, []int{1, 9}, api.Open, api.Fine}, {"house MAKEPROF?? IT -\nalike IM\ntag I 0..5\ntag T 9\n", 0, []int{0, 1}, api.Open, api.Fine}, {"house MAKEPROF?? IT -\nalike IM\ntag I 0..5\ntag T 0\n", 0, []int{1}, api.Yes, api.Fine},
	} {
		h := parse(t, c.text)
		if list, l := tag.Prices(h, c.tag); !slices.Equal(list, c.prices) || l != c.l {
			t.Errorf("%q: %v, bell %d, want %v, %d", c.text, list, l, c.prices, c.l)
		}
		if sure, l := tag.Misread(h, c.tag); sure != c.misread || l != c.l {
			t.Errorf("%q: misread %d, bell %d, want %d, %d", c.text, sure, l, c.misread, c.l)
		}
	}
}

// P3.2: Means returns the numbers of all that can stand where something is read.
func TestMeans(t *testing.T) {
	for _, x := range []struct {
		text, reads string
		want        []int
		l           api.Bell
	}{
		{textH, "MOX", []int{177}, api.Fine}, {textH, "KIX", []int{300, 399}, api.Fine}, {textG, "KIX", []int{399}, api.Fine}, {textH, "OX", []int{77}, api.Fine},
		{textH, "X", nil, api.Fine}, {textH, "MM", nil, api.Fine}, {textH, "Z", nil, api.Fine}, {textK, "MX", nil, api.Fine}, {textK, "MM", []int{11}, api.Fine}, {textH, "F", []int{4, 8}, api.Fine}, {textH, "EF", []int{48, 84}, api.Fine}, {textH, "FX", []int{44, 88}, api.Fine}, {textH, "EFX", []int{488, 844}, api.Fine},
		// prices of tags are none of what is read elsewhere
		{textC[:strings.Index(textC, "tag ?T")], "PXI", []int{550}, api.Fine}, {textG, "KET", []int{340, 380}, api.Fine},
		{textK, "?", []int{0, 1, 2, 3, 4, 5, 6, 7, 8, 9}, api.Fine}, {textH, "M??", from(100, 199), api.Fine}, {textK, "MAKEP", []int{12345}, api.Fine}, {textK, "TTTTT", []int{0}, api.Fine},
		{textH, "", nil, api.Count}, {textH, "MAKEPR", nil, api.Count}, {textH, "MAKEPr", nil, api.Count}, {textH, "m", nil, api.Shape}, {textH, "M\xff", nil, api.Shape}, {textH, "?m??", nil, api.Shape}, {textH, "???", nil, api.Count}, {textH, "M?A??", nil, api.Count}, {textC, "M", nil, api.Odds}, {textC, "", nil, api.Count}, {textC, "m", nil, api.Shape}, {textC, "???", nil, api.Count},
	} {
		if list, l := tag.Means(parse(t, x.text), x.reads); !slices.Equal(list, x.want) || l != x.l {
			t.Errorf("%q, %q: %v, bell %d, want %v, %d", x.text, x.reads, list, l, x.want, x.l)
		}
	}
}

// from returns the numbers from a to b.
func from(a, b int) []int {
	var list []int
	for n := a; n <= b; n++ {
		list = append(list, n)
	}
	return list
}

// P3.2: Writes returns how a price is written, and Plain whether it is read as no other one.
func TestWrites(t *testing.T) {
	const near = "house MAKEPROFIT - -\nalike EQ\nalike QF\n"
	for _, x := range []struct {
		text        string
		price, long int
		want        []string
		plain       bool
		l           api.Bell
	}{
		{textH, 90, 2, []string{"IT", "TI"}, false, api.Fine}, {textG, 90, 2, []string{"IT"}, true, api.Fine}, {textH, 77, 2, []string{"OX"}, true, api.Fine}, {textG, 5, 3, []string{"TXP"}, true, api.Fine}, {textH, 123, 3, []string{"MAK"}, true, api.Fine}, {textH, 345, 3, []string{"KEP"}, false, api.Fine}, {textH, 19, 2, []string{"MI", "MT"}, false, api.Fine}, {textG, 19, 2, []string{"MI"}, true, api.Fine},
		{textK, 5, 1, []string{"P"}, true, api.Fine}, {textK, 5, 3, []string{"TTP"}, true, api.Fine}, {textK, 0, 1, []string{"T"}, true, api.Fine}, {textK, 0, 5, []string{"TTTTT"}, true, api.Fine}, {textK, 99999, 5, []string{"IIIII"}, true, api.Fine}, {textK, 11211, 5, []string{"MMAMM"}, true, api.Fine},
		{textH, 0, 1, []string{"I", "T"}, false, api.Fine}, {textH, 0, 5, []string{"IXXXX", "TXXXX"}, false, api.Fine}, {textH, 7777, 5, []string{"IOXXX", "TOXXX"}, false, api.Fine}, {textH, 11211, 5, []string{"MXAMX"}, true, api.Fine}, {textG, 99099, 5, []string{"IXTIX"}, true, api.Fine}, {textH, 1000, 4, []string{"MIXX", "MTXX"}, false, api.Fine},
		// one letter looks like another one, though what is read is never that
		{textH, 44, 2, []string{"EX"}, false, api.Fine}, {textH, 8, 1, []string{"F"}, false, api.Fine}, {near, 4, 1, []string{"E"}, true, api.Fine}, {near, 8, 1, []string{"F"}, true, api.Fine}, {strings.Replace(near, "- -", "- Q", 1), 44, 2, []string{"EQ"}, false, api.Fine},
		{strings.Replace(near, "- -", "- Q", 1), 4, 1, []string{"E"}, true, api.Fine}, {strings.Replace(near, "- -", "- Q", 1), 14, 2, []string{"ME"}, false, api.Fine},
		{textH, 100, 2, nil, false, api.Short}, {textH, 99, 2, []string{"IX", "TX"}, false, api.Fine}, {textH, 10, 1, nil, false, api.Short}, {textH, 99999, 4, nil, false, api.Short}, {textH, -1, 2, nil, false, api.Bound}, {textH, 100000, 5, nil, false, api.Bound}, {textH, 1, 0, nil, false, api.Bound}, {textH, 1, 6, nil, false, api.Bound}, {textH, 1, -1, nil, false, api.Bound}, {textH, 100000, 0, nil, false, api.Bound}, {textC, 1, 1, nil, false, api.Odds}, {textC, 10, 1, nil, false, api.Short}, {textC, -1, 1, nil, false, api.Bound},
	} {
		h := parse(t, x.text)
		if list, l := tag.Writes(h, x.price, x.long); !slices.Equal(list, x.want) || l != x.l {
			t.Errorf("%q, %d with %d: %q, bell %d, want %q, %d", x.text, x.price, x.long, list, l, x.want, x.l)
		}
		if is, l := tag.Plain(h, x.price, x.long); is != x.plain || l != x.l {
			t.Errorf("%q, %d with %d: plain %v, bell %d, want %v, %d", x.text, x.price, x.long, is, l, x.plain, x.l)
		}
	}
}

// P3.2: Prices, Misread, Means, Writes and Plain return what all that is tried tells.
func TestPricesOfAnyHouse(t *testing.T) {
	d := dice.Dice(2)
	sures := map[api.Sure]int{}
	plains := map[bool]int{}
	for i := range 400 {
		h, real := anyHouse(&d, i%2 == 0)
		all := pasts(h)
		odd := api.Fine
		if len(all) == 0 {
			odd = api.Odds
		}
		for i := range h.Tags {
			if list, l := tag.Prices(h, i); !slices.Equal(list, pricesOf(all, i)) || l != odd {
				t.Errorf("%+v, tag %d: %v, bell %d, want %v", h, i, list, l, pricesOf(all, i))
			}
			want := api.Open
			if odd == api.Fine {
				want = misreadOf(h, all, i)
				sures[want]++
			}
			if sure, l := tag.Misread(h, i); sure != want || l != odd {
				t.Errorf("%+v, tag %d: misread %d, bell %d, want %d", h, i, sure, l, want)
			}
		}
		x, m := anyTag(&d, h, real.word, 3)
		if list, l := tag.Means(h, x.Reads); !slices.Equal(list, meansOf(h, all, x.Reads)) || l != odd {
			t.Errorf("%+v, %q: %v, bell %d", h, x.Reads, list, l)
		}
		long := len(x.Reads)
		if list, l := tag.Writes(h, m.number, long); !slices.Equal(list, writesOf(h, all, m.number, long)) || l != odd {
			t.Errorf("%+v, %d with %d: %q, bell %d", h, m.number, long, list, l)
		}
		want := odd == api.Fine && plainOf(h, all, m.number, long)
		plains[want]++
		if is, l := tag.Plain(h, m.number, long); is != want || l != odd {
			t.Errorf("%+v, %d with %d: plain %v, bell %d", h, m.number, long, is, l)
		}
	}
	if sures[api.Open] < 50 || sures[api.Yes] < 20 || sures[api.No] < 50 || plains[true] < 50 || plains[false] < 50 {
		t.Errorf("there were too few houses: %v, %v", sures, plains)
	}
}

// P3.2: so they do of tags with as many letters as there can be.
func TestLongTags(t *testing.T) {
	d := dice.Dice(3)
	for range 12 {
		h, real := anyLetters(&d)
		for len(h.Spare) > 2 {
			h, real = anyLetters(&d)
		}
		x, _ := anyTag(&d, h, real.word, 5)
		h.Tags = []api.TagTag{x}
		all := pasts(h)
		if list, l := tag.Prices(h, 0); !slices.Equal(list, pricesOf(all, 0)) || l != api.Fine {
			t.Errorf("%+v: %v, bell %d, want %v", h, list, l, pricesOf(all, 0))
		}
		if list, l := tag.Means(h, x.Reads); !slices.Equal(list, meansOf(h, all, x.Reads)) || l != api.Fine {
			t.Errorf("%+v: %v, bell %d", h, list, l)
		}
	}
}
