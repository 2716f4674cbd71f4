package evening_test

import (
	"testing"

	"nosale/api"
	"nosale/evening"
)

// P7.1, P7.2, P7.3: the chapter's examples, each row of its table.
func TestExamples(t *testing.T) {
	b := parse(t, textE)
	is := func(name string, want string, got ...any) {
		t.Helper()
		if s := show(got...); s != want {
			t.Errorf("%s: %s, want %s", name, s, want)
		}
	}
	gap0, _ := evening.Gap(b, 0)
	gap1, _ := evening.Gap(b, 1)
	many, _ := evening.Histories(b)
	explained, l := evening.Explained(b)
	is("Gap, Histories, Explained", show(to(0, 0), to(3, 4), 8, false, api.Fine), gap0, gap1, many, explained, l)
	took, _ := evening.Took(b, 0)
	hour0, _ := evening.Hour(b, 0)
	hour1, _ := evening.Hour(b, 1)
	slipped, l := evening.Slipped(b, 0)
	is("Took, Hour, Slipped", show(api.Open, api.No, api.Yes, api.Open, api.Fine), took, hour0, hour1, slipped, l)
	sums, _ := evening.Sums(b, 0)
	loss, _ := evening.Loss(b)
	fewest, _ := evening.Fewest(b)
	hands, l := evening.Hands(b)
	is("Sums, Loss, Fewest, Hands", show(to(0, 4), to(1, 4), takings(taking(1, 0, 1)), []int{0}, api.Fine), sums, loss, fewest, hands, l)
	one, _ := evening.Agrees(b, takings(taking(1, 1, 3)), nil)
	other, l := evening.Agrees(b, nil, []int{0})
	is("Agrees", "[true false 0]", one, other, l)
	hour, clerk, left, l := evening.Ask(b)
	is("Ask", "[1 0 4 0]", hour, clerk, left, l)
	cleared, l := evening.Clear(b, 1, 0)
	many, _ = evening.Histories(cleared)
	took, _ = evening.Took(cleared, 1)
	is("Clear", show(4, api.Yes, api.Fine), many, took, l)
	mended, l := evening.Mend(b, 0)
	many, _ = evening.Histories(mended)
	loss, _ = evening.Loss(mended)
	is("Mend", show(4, to(3, 4), api.Fine), many, loss, l)
	less := parse(t, with("177", "178"))
	many, _ = evening.Histories(less)
	explained, l = evening.Explained(less)
	is("178 counted", "[7 true 0]", many, explained, l)
	clash, l := evening.Clash(parse(t, textHigh))
	is("Clash", "[[1] 0]", clash, l)
	text, l := evening.Print(b)
	is("Print", show(textE, api.Fine), text, l)
}
