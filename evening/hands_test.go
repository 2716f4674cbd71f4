package evening_test

import (
	"strings"
	"testing"

	"nosale/api"
	"nosale/evening"
)

// handsCase is a book, and what is told of its clerks, its hours, its slips and its takings.
type handsCase struct {
	text                string
	took, hour, slipped []api.Sure
	sums                []api.Span
	loss                api.Span
	fewest              []api.EveningTaking
	hands               []int
}

// sures returns a list of how sure something is: y, n, or o.
func sures(letters string) []api.Sure {
	var list []api.Sure
	for _, c := range letters {
		list = append(list, map[rune]api.Sure{'o': api.Open, 'y': api.Yes, 'n': api.No}[c])
	}
	return list
}

// spans returns a list of spans.
func spans(list ...api.Span) []api.Span { return list }

// handsCases are those of the books above, and some more.
func handsCases() []handsCase {
	none, zero := takings(), to(0, 0)
	const ends = "evening 2 5 0 0\nclerk ann\nclerk bob\nclerk cid\nhour 9 0+1\nhour 9 1+2\n"
	return []handsCase{
		{textE, sures("oo"), sures("ny"), sures("o"), spans(to(0, 4), to(0, 4)), to(1, 4), takings(taking(1, 0, 1)), []int{0}},
		{textTwo, sures("yy"), sures("yy"), nil, spans(to(1, 2), to(1, 2)), to(3, 3), takings(taking(0, 0, 1), taking(1, 1, 2)), []int{0, 1}},
		{textBare, nil, sures("n"), nil, nil, zero, none, nil},
		{textSlip, nil, sures("n"), sures("yn"), nil, zero, none, nil},
		// it could have slipped, or ann or bob could have taken it
		{with("177", "178"), sures("oo"), sures("no"), sures("o"), spans(to(0, 3), to(0, 3)), to(0, 3), none, nil},
		{with("wheel 1 2\n", ""), sures("oo"), sures("ny"), nil, spans(to(0, 4), to(0, 4)), to(3, 4), takings(taking(1, 0, 3)), []int{0}},
		{with("31 0+1", "31 1"), sures("ny"), sures("ny"), sures("o"), spans(zero, to(1, 4)), to(1, 4), takings(taking(1, 1, 1)), []int{1}},
		// the slip is sure: without it more is missing than can be taken
		{with("177", "174"), sures("oo"), sures("ny"), sures("y"), spans(to(0, 5), to(0, 5)), to(4, 5), takings(taking(1, 0, 4)), []int{0}},
		// less was said than was taken in
		{strings.Replace(with("177", "182"), "wheel 1 2", "wheel 1 -2", 1), sures("oo"), sures("no"), sures("y"), spans(to(0, 1), to(0, 1)), to(0, 1), none, nil},
		// of so many takings those with less money, then the least list
		{ends + "count 1 10\n", sures("ooo"), sures("oo"), nil, spans(to(0, 5), to(0, 8), to(0, 5)), to(8, 8), takings(taking(0, 0, 3), taking(0, 1, 5)), []int{1}},
		{ends + "count 1 10..11\n", sures("ooo"), sures("oo"), nil, spans(to(0, 5), to(0, 8), to(0, 5)), to(7, 8), takings(taking(0, 0, 2), taking(0, 1, 5)), []int{1}},
		{ends + "count 0 4\ncount 1 10\n", sures("ooo"), sures("yy"), nil, spans(to(0, 5), to(0, 8), to(0, 3)), to(8, 8), takings(taking(0, 0, 5), taking(1, 1, 3)), []int{1}},
		// fewer takings come before less money
		{ends + "count 0 4\ncount 1 10..13\n", sures("ooo"), sures("yo"), nil, spans(to(0, 5), to(0, 8), to(0, 3)), to(5, 8), takings(taking(0, 0, 5)), []int{0}},
		{textSure, sures("ooy"), sures("oyn"), sures("oon"), spans(to(0, 1), to(0, 1), to(3, 5)), to(3, 6), takings(taking(1, 2, 3)), []int{2}},
		// the fewest hands are another clerk's than the fewest takings
		{"evening 2 2 0 9\nclerk ann\nclerk bob\nclerk cid\nhour 1 0+2\nhour 0 1+2\ncount 0 8\ncount 1 7\n", sures("ooo"), sures("yy"), nil, spans(to(0, 2), to(0, 1), to(0, 3)), to(3, 3), takings(taking(0, 0, 2), taking(1, 1, 1)), []int{2}},
	}
}

// P7.2: who took something, and when, what slipped, and how much it was.
func TestHands(t *testing.T) {
	for _, x := range handsCases() {
		b := parse(t, x.text)
		var took, hour, slipped []api.Sure
		var sums []api.Span
		var bells api.Bell
		for i := range b.Clerks {
			sure, l := evening.Took(b, i)
			s, l2 := evening.Sums(b, i)
			took, sums, bells = append(took, sure), append(sums, s), bells+l+l2
		}
		for i := range b.Hours {
			sure, l := evening.Hour(b, i)
			hour, bells = append(hour, sure), bells+l
		}
		for i := range b.Wheels {
			sure, l := evening.Slipped(b, i)
			slipped, bells = append(slipped, sure), bells+l
		}
		loss, l := evening.Loss(b)
		fewest, l2 := evening.Fewest(b)
		hands, l3 := evening.Hands(b)
		got := show(took, hour, slipped, sums, loss, fewest, hands, bells+l+l2+l3)
		if want := show(x.took, x.hour, x.slipped, x.sums, x.loss, x.fewest, x.hands, api.Fine); got != want {
			t.Errorf("%q: %s, want %s", x.text, got, want)
		}
	}
}

// P7.2: money of several takings of a clerk, in one hour and in others, is money of that clerk.
func TestSumsOfHours(t *testing.T) {
	b := parse(t, "evening 2 5 0 0\nclerk ann\nclerk bob\nhour 9 0\nhour 9 0+1\ncount 1 8\n")
	// of 10 ann took all, or 5 in one of the hours, when bob took the other 5
	sums, l := evening.Sums(b, 0)
	other, l2 := evening.Sums(b, 1)
	if got := show(sums, other, l, l2); got != show(to(5, 10), to(0, 5), api.Fine, api.Fine) {
		t.Error(got)
	}
}
