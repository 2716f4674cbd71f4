package evening_test

import (
	"math"
	"slices"
	"strings"
	"testing"

	"nosale/api"
	"nosale/evening"
)

// bellCase is a change of the book E, and the bell that it has then.
type bellCase struct {
	name   string
	change func(b *api.EveningBook)
	want   api.Bell
}

// all makes several changes.
func all(changes ...func(b *api.EveningBook)) func(b *api.EveningBook) {
	return func(b *api.EveningBook) {
		for _, change := range changes {
			change(b)
		}
	}
}

// headCases are those of the numbers of a book.
func headCases() []bellCase {
	most := func(n int) func(b *api.EveningBook) { return func(b *api.EveningBook) { b.Most = n } }
	take := func(n int) func(b *api.EveningBook) { return func(b *api.EveningBook) { b.Take = n } }
	slips := func(n int) func(b *api.EveningBook) { return func(b *api.EveningBook) { b.Slips = n } }
	float := func(low, high int) func(b *api.EveningBook) {
		return func(b *api.EveningBook) { b.Float = to(low, high) }
	}
	return []bellCase{
		{"the book E", all(), api.Fine},
		{"no takings", most(0), api.Fine}, {"takings at the limit", most(2), api.Fine}, {"takings above the limit", most(3), api.Bound}, {"takings below 0", most(-1), api.Bound}, {"very many takings", most(math.MaxInt), api.Bound}, {"very few takings", most(math.MinInt), api.Bound},
		{"nothing to take", take(0), api.Fine}, {"a taking at the limit", take(5), api.Fine}, {"a taking above the limit", take(6), api.Bound}, {"a taking below 0", take(-1), api.Bound}, {"a very great taking", take(math.MaxInt), api.Bound}, {"a very small taking", take(math.MinInt), api.Bound},
		{"no slips", slips(0), api.Fine}, {"slips at the limit", slips(2), api.Fine}, {"slips above the limit", slips(3), api.Bound}, {"slips below 0", slips(-1), api.Bound}, {"very many slips", slips(math.MaxInt), api.Bound}, {"very few slips", slips(math.MinInt), api.Bound},
		{"any float", float(0, 9999), api.Fine}, {"no float", float(0, 0), api.Fine}, {"a float at the limit", float(9999, 9999), api.Fine}, {"a float above the limit", float(0, 10000), api.Bound}, {"a float below 0", float(-1, 0), api.Bound}, {"a float that is no span", float(1, 0), api.Bound}, {"a very wide float", float(math.MinInt, math.MaxInt), api.Bound}, {"a float that is no span at all", float(math.MaxInt, math.MinInt), api.Bound},
		// the first one decides
		{"a wrong float, and too many clerks", all(float(1, 0), func(b *api.EveningBook) { b.Clerks = make([]string, 4) }), api.Bound}, {"a wrong Slips, and no hours", all(slips(3), func(b *api.EveningBook) { b.Hours = nil }), api.Bound},
	}
}

// clerkCases are those of clerks.
func clerkCases() []bellCase {
	clerks := func(list ...string) func(b *api.EveningBook) { return func(b *api.EveningBook) { b.Clerks = list } }
	return []bellCase{
		{"three clerks", clerks("ann", "bob", "cid"), api.Fine}, {"four clerks", clerks("ann", "bob", "cid", "dan"), api.Count}, {"very many clerks", clerks(make([]string, 1000)...), api.Count}, {"other names", clerks("a", "z999999999"), api.Fine},
		{"no name", clerks("ann", ""), api.Label}, {"a long name", clerks("ann", "abcdefghijk"), api.Label}, {"a name in capitals", clerks("Ann", "bob"), api.Label}, {"a number", clerks("ann", "0"), api.Label}, {"a name with a blank", clerks("ann", "b b"), api.Label}, {"a name of other bytes", clerks("\xff", "bob"), api.Label}, {"a very long name", clerks("ann", strings.Repeat("a", 1000000)), api.Label},
		{"the same name", clerks("ann", "ann"), api.Twice}, {"the same name, not side by side", clerks("ann", "bob", "ann"), api.Twice},
		{"a clerk who is not there", clerks("ann"), api.Missing}, {"no clerks", clerks(), api.Missing}, {"no clerks, and nobody on duty", all(clerks(), func(b *api.EveningBook) { b.Hours = make([]api.EveningHour, 2) }), api.Fine},
		// the first one decides
		{"too many clerks, without names", clerks("", "", "", ""), api.Count}, {"a clerk without a name, twice", clerks("", ""), api.Label}, {"the same name, before none", clerks("ann", "ann", ""), api.Twice}, {"no name, before the same name", clerks("ann", "", "ann"), api.Label}, {"no name, and no hours", all(clerks("ann", ""), func(b *api.EveningBook) { b.Hours = nil }), api.Label},
	}
}

// hourCases are those of hours, their staff and all duties.
func hourCases() []bellCase {
	hours := func(list ...api.EveningHour) func(b *api.EveningBook) {
		return func(b *api.EveningBook) { b.Hours = list }
	}
	said := func(low, high int) func(b *api.EveningBook) {
		return func(b *api.EveningBook) { b.Hours[1].Said = to(low, high) }
	}
	staff := func(list ...int) func(b *api.EveningBook) {
		return func(b *api.EveningBook) { b.Hours[1].Staff = list }
	}
	both := api.EveningHour{Staff: []int{0, 1}}
	three := all(func(b *api.EveningBook) { b.Clerks = []string{"ann", "bob", "cid"} }, hours(api.EveningHour{Staff: []int{0, 1, 2}}, api.EveningHour{Staff: []int{0, 1, 2}}))
	return []bellCase{
		{"no hours", hours(), api.Count}, {"hours at the limit", hours(make([]api.EveningHour, 4)...), api.Fine}, {"hours above the limit", hours(make([]api.EveningHour, 5)...), api.Count}, {"very many hours", hours(make([]api.EveningHour, 1000)...), api.Count}, {"one hour", all(hours(api.EveningHour{}), func(b *api.EveningBook) { b.Wheels, b.Counts = nil, nil }), api.Fine},
		{"nothing was said", said(0, 0), api.Fine}, {"anything was said", said(0, 9999), api.Fine}, {"what was said at the limit", said(9999, 9999), api.Fine}, {"what was said above the limit", said(0, 10000), api.Bound}, {"what was said below 0", said(-1, 3), api.Bound}, {"what was said is no span", said(3, 2), api.Bound}, {"what was said is very wide", said(math.MinInt, math.MaxInt), api.Bound},
		{"nobody on duty", staff(), api.Fine}, {"the second clerk", staff(1), api.Fine}, {"a clerk above the last one", staff(2), api.Missing}, {"a clerk below 0", staff(-1), api.Missing}, {"a clerk far away", staff(0, math.MaxInt), api.Missing}, {"a clerk far below", staff(math.MinInt), api.Missing}, {"clerks in another order", staff(1, 0), api.Order}, {"a clerk twice", staff(0, 0), api.Order}, {"very many clerks on duty", staff(make([]int, 1000000)...), api.Order},
		{"duties at the limit", hours(both, both, both, api.EveningHour{}), api.Fine}, {"duties above the limit", hours(both, both, both, api.EveningHour{Staff: []int{0}}), api.Count}, {"all clerks in two hours", three, api.Fine}, {"all clerks, and one more", all(three, func(b *api.EveningBook) { b.Hours = append(b.Hours, api.EveningHour{Staff: []int{2}}) }), api.Count},
		// the first one decides
		{"what was said is wrong, and who was there", all(said(3, 2), staff(2)), api.Bound}, {"who was there, before what was said", all(said(3, 2), func(b *api.EveningBook) { b.Hours[0].Staff = []int{1, 0} }), api.Order}, {"not there, before the order", staff(2, 0), api.Missing}, {"the order, before not there", staff(1, 0, 2), api.Order}, {"not there, and below the one before it", staff(1, -1), api.Missing},
		{"too many hours, all wrong", hours(slices.Repeat([]api.EveningHour{{Said: to(1, 0)}}, 5)...), api.Count}, {"too many duties, and a wrong hour", hours(both, both, both, api.EveningHour{Said: to(1, 0), Staff: []int{0}}), api.Bound}, {"too many duties, and a wrong slip", all(hours(both, both, both, both), func(b *api.EveningBook) { b.Wheels[0].Hour = 9 }), api.Count}, {"a wrong hour, and a wrong slip", all(said(3, 2), func(b *api.EveningBook) { b.Wheels[0].Hour = 9 }), api.Bound},
	}
}

// slipCases are those of slips.
func slipCases() []bellCase {
	slip := func(hour, wrong int) func(b *api.EveningBook) {
		return func(b *api.EveningBook) { b.Wheels[0] = api.EveningSlip{Hour: hour, Error: wrong} }
	}
	slips := func(n int) func(b *api.EveningBook) {
		return func(b *api.EveningBook) { b.Wheels = slices.Repeat(b.Wheels, n) }
	}
	return []bellCase{
		{"no slips at all", slips(0), api.Fine}, {"three slips", slips(3), api.Fine}, {"four slips", slips(4), api.Count}, {"very many slips of wheels", slips(1000), api.Count},
		{"a slip of the first hour", slip(0, 2), api.Fine}, {"a slip of no hour", slip(2, 2), api.Missing}, {"a slip below the first hour", slip(-1, 2), api.Missing}, {"a slip of an hour far away", slip(math.MaxInt, 2), api.Missing}, {"a slip of an hour far below", slip(math.MinInt, 2), api.Missing},
		{"an error of 1", slip(1, 1), api.Fine}, {"an error of -1", slip(1, -1), api.Fine}, {"an error of 0", slip(1, 0), api.Bound}, {"an error at the limit", slip(1, 999), api.Fine}, {"an error at the other limit", slip(1, -999), api.Fine}, {"an error above the limit", slip(1, 1000), api.Bound}, {"an error below the limit", slip(1, -1000), api.Bound}, {"a very great error", slip(1, math.MaxInt), api.Bound}, {"a very small error", slip(1, math.MinInt), api.Bound},
		// the first one decides
		{"a slip of no hour, without an error", slip(2, 0), api.Missing}, {"too many slips, all wrong", all(slip(2, 0), slips(4)), api.Count}, {"no error, before no hour", all(slip(0, 0), func(b *api.EveningBook) { b.Wheels = append(b.Wheels, api.EveningSlip{Hour: 9, Error: 1}) }), api.Bound}, {"a wrong slip, and too many counts", all(slip(2, 2), func(b *api.EveningBook) { b.Counts = make([]api.EveningCount, 3) }), api.Missing},
	}
}

// countCases are those of counts.
func countCases() []bellCase {
	counts := func(list ...api.EveningCount) func(b *api.EveningBook) {
		return func(b *api.EveningBook) { b.Counts = list }
	}
	money := func(low, high int) func(b *api.EveningBook) { return counts(count(0, low, high)) }
	return []bellCase{
		{"no counts", counts(), api.Fine}, {"a count of the last hour", counts(count(1, 5, 5)), api.Fine}, {"a count behind each hour", counts(count(0, 5, 5), count(1, 5, 5)), api.Fine}, {"more counts than hours", counts(count(0, 5, 5), count(1, 5, 5), count(1, 5, 5)), api.Count}, {"very many counts", counts(make([]api.EveningCount, 1000)...), api.Count},
		{"a count behind no hour", counts(count(2, 5, 5)), api.Missing}, {"a count before the first hour", counts(count(-1, 5, 5)), api.Missing}, {"a count far away", counts(count(math.MaxInt, 5, 5)), api.Missing}, {"a count far below", counts(count(0, 5, 5), count(math.MinInt, 5, 5)), api.Missing}, {"counts in another order", counts(count(1, 5, 5), count(0, 5, 5)), api.Order}, {"two counts behind an hour", counts(count(1, 5, 5), count(1, 5, 5)), api.Order},
		{"any money", money(0, 9999), api.Fine}, {"no money", money(0, 0), api.Fine}, {"money at the limit", money(9999, 9999), api.Fine}, {"money above the limit", money(0, 10000), api.Bound}, {"money below 0", money(-1, 0), api.Bound}, {"money that is no span", money(1, 0), api.Bound}, {"very much money", money(math.MaxInt, math.MaxInt), api.Bound}, {"a very wide span of money", money(math.MinInt, math.MaxInt), api.Bound}, {"counts that contradict each other", counts(count(0, 0, 0), count(1, 9999, 9999)), api.Fine},
		// the first one decides
		{"a count behind no hour, of no money", counts(count(2, 1, 0)), api.Missing}, {"counts in another order, of no money", counts(count(1, 5, 5), count(0, 1, 0)), api.Order}, {"a wrong count, before one in another order", counts(count(1, 1, 0), count(0, 5, 5)), api.Bound}, {"more counts than hours, all wrong", counts(slices.Repeat([]api.EveningCount{count(9, 1, 0)}, 3)...), api.Count}, {"as many counts as hours, more than can be", all(func(b *api.EveningBook) { b.Hours = b.Hours[:1]; b.Wheels = nil }), api.Count},
	}
}

// bellCases returns all cases.
func bellCases() []bellCase {
	return slices.Concat(headCases(), clerkCases(), hourCases(), slipCases(), countCases())
}

// P7.1, P0.2: CheckBook returns the first bell, which all functions return then, with nothing else.
func TestBells(t *testing.T) {
	for _, x := range bellCases() {
		b := parse(t, textE)
		x.change(&b)
		if l := evening.CheckBook(b); l != x.want {
			t.Errorf("%s: bell %d, want %d", x.name, l, x.want)
		}
		if x.want != api.Fine {
			onlyBell(t, x.name, b, x.want)
		}
	}
}

// onlyBell tells whether all functions return the bell of a book, and nothing else, even if they are asked for what is not there.
func onlyBell(t *testing.T, name string, b api.EveningBook, want api.Bell) {
	t.Helper()
	many, l := evening.Histories(b)
	clash, l2 := evening.Clash(b)
	text, l3 := evening.Print(b)
	if got := show(many, clash, text, l, l2, l3); got != show(0, []int{}, "", want, want, want) {
		t.Errorf("%s: %s, want the bell %d alone", name, got, want)
	}
	for _, n := range []int{0, 1, 9, -1} {
		gap, l := evening.Gap(b, n)
		is, l2 := evening.Agrees(b, takings(taking(n, n, n)), []int{n})
		if got := show(gap, is, l, l2); got != show(api.Span{}, false, want, want) {
			t.Errorf("%s, %d: %s, want the bell %d alone", name, n, got, want)
		}
		if got := withHistory(b, n, n, n); got != bellsAlone(want) {
			t.Errorf("%s, %d: %s, want the bell %d alone", name, n, got, want)
		}
		if got := ofThings(b, n); got != thingsAlone(want) {
			t.Errorf("%s, %d: %s, want the bell %d alone", name, n, got, want)
		}
	}
}

// withHistory writes the results of the functions that need a history: of an hour and a clerk that are a duty, and of a count behind an hour.
func withHistory(b api.EveningBook, hour, clerk, after int) string {
	is, l := evening.Explained(b)
	loss, l2 := evening.Loss(b)
	fewest, l3 := evening.Fewest(b)
	hands, l4 := evening.Hands(b)
	asked, of, left, l5 := evening.Ask(b)
	cleared, l6 := evening.Clear(b, hour, clerk)
	counted, l7 := evening.Count(b, count(after, 0, 9999))
	return show(is, loss, fewest, hands, asked, of, left, cleared, counted, l, l2, l3, l4, l5, l6, l7)
}

// bellsAlone writes the results of these functions if all of them have a bell.
func bellsAlone(l api.Bell) string {
	none := api.EveningBook{}
	return show(false, api.Span{}, takings(), []int{}, 0, 0, 0, none, none, l, l, l, l, l, l, l)
}

// ofThings writes the results of the functions that are asked about a clerk, an hour or a slip.
func ofThings(b api.EveningBook, n int) string {
	took, l := evening.Took(b, n)
	hour, l2 := evening.Hour(b, n)
	slipped, l3 := evening.Slipped(b, n)
	sums, l4 := evening.Sums(b, n)
	mended, l5 := evening.Mend(b, n)
	return show(took, hour, slipped, sums, mended, l, l2, l3, l4, l5)
}

// thingsAlone writes the results of these functions if all of them have a bell.
func thingsAlone(l api.Bell) string {
	return show(api.Open, api.Open, api.Open, api.Span{}, api.EveningBook{}, l, l, l, l, l)
}

// P0.2: what is asked about and is not there, and the other bells of arguments, come before it is Odds that there is no history, which comes with nothing else.
func TestBellsBeforeOdds(t *testing.T) {
	open := strings.Replace(textHigh, "count 0 150\n", "", 1)
	b := parse(t, open)
	if got := withHistory(b, 0, 0, 0); got != bellsAlone(api.Odds) {
		t.Error(got)
	}
	if got := ofThings(b, 0); got != thingsAlone(api.Odds) {
		t.Error(got)
	}
	for _, text := range []string{textE, open} {
		b := parse(t, text)
		for _, n := range []int{math.MinInt, -1, 3, math.MaxInt} {
			if got := ofThings(b, n); got != thingsAlone(api.Missing) {
				t.Errorf("%q, %d: %s", text, n, got)
			}
			gap, l := evening.Gap(b, n)
			cleared, l2 := evening.Clear(b, n, 0)
			also, l3 := evening.Clear(b, 1, n)
			counted, l4 := evening.Count(b, count(n, 1, 0))
			none, m := api.EveningBook{}, api.Missing
			if got := show(gap, cleared, also, counted, l, l2, l3, l4); got != show(api.Span{}, none, none, none, m, m, m, m) {
				t.Errorf("%q, %d: %s", text, n, got)
			}
		}
	}
	twice, l := evening.Count(b, count(1, 0, 10000))
	bound, l2 := evening.Count(b, count(0, 0, 10000))
	if got := show(twice, bound, l, l2); got != show(api.EveningBook{}, api.EveningBook{}, api.Twice, api.Bound) {
		t.Error(got)
	}
	if n, l := evening.Histories(b); n != 0 || l != api.Fine {
		t.Errorf("%d histories, bell %d", n, l)
	}
	layer().Parses(t, open, 0, api.Fine)
}

// P0.2: clerks, hours, slips and counts that are there in one list, but not in the one that is asked, are Missing.
func TestOtherLists(t *testing.T) {
	// three clerks, one hour, no slips, no counts
	b := parse(t, "evening 1 1 1 5\nclerk a\nclerk b\nclerk c\nhour 5 0+2\n")
	_, clerk := evening.Took(b, 2)
	_, sums := evening.Sums(b, 2)
	_, hour := evening.Hour(b, 1)
	_, slip := evening.Slipped(b, 0)
	_, mend := evening.Mend(b, 0)
	_, gap := evening.Gap(b, 0)
	_, duty := evening.Clear(b, 0, 1)
	m := api.Missing
	if got := show(clerk, sums, hour, slip, mend, gap, duty); got != show(api.Fine, api.Fine, m, m, m, m, m) {
		t.Error(got)
	}
}
