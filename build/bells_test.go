package build_test

import (
	"math"
	"slices"
	"strings"
	"testing"

	"nosale/api"
	"nosale/build"
	"nosale/oracle"
)

// bellCase is a change of the book B, and the bell that it has then.
type bellCase struct {
	name   string
	change func(b *api.BuildBook)
	want   api.Bell
}

// headCases are those of Beat, Places and the number of parts.
func headCases() []bellCase {
	head := func(beat, places int) func(b *api.BuildBook) {
		return func(b *api.BuildBook) {
			*b = api.BuildBook{Beat: beat, Places: places, Parts: b.Parts[:1]}
			b.Parts[0].Fits = nil
		}
	}
	return []bellCase{
		{"the book B", func(b *api.BuildBook) {}, api.Fine},
		{"Beat of 1", head(1, 3), api.Fine}, {"Beat of 0", head(0, 3), api.Bound}, {"Beat below 0", head(-1, 3), api.Bound}, {"Beat at the limit", head(99, 3), api.Fine}, {"Beat above the limit", head(100, 3), api.Bound}, {"a very great Beat", head(math.MaxInt, 3), api.Bound}, {"a very small Beat", head(math.MinInt, 3), api.Bound},
		{"one place", head(8, 1), api.Fine}, {"no place", head(8, 0), api.Bound}, {"places below 0", head(8, -1), api.Bound}, {"places at the limit", head(8, 4), api.Fine}, {"places above the limit", head(8, 5), api.Bound}, {"very many places", head(8, math.MaxInt), api.Bound}, {"very few places", head(8, math.MinInt), api.Bound},
		{"no parts", func(b *api.BuildBook) { b.Parts = nil }, api.Count}, {"parts at the limit", func(b *api.BuildBook) { b.Parts = append(b.Parts, named("x"), named("y")) }, api.Fine}, {"parts above the limit", func(b *api.BuildBook) { b.Parts = append(b.Parts, named("x"), named("y"), named("z")) }, api.Count}, {"very many parts", func(b *api.BuildBook) { b.Parts = make([]api.BuildPart, 1000) }, api.Count},
		// the first one decides
		{"no place, and no parts", func(b *api.BuildBook) { b.Places, b.Parts = 0, nil }, api.Bound}, {"Beat of 0, and no parts", func(b *api.BuildBook) { b.Beat, b.Parts = 0, nil }, api.Bound}, {"too many parts, all wrong", func(b *api.BuildBook) { b.Parts = make([]api.BuildPart, 6) }, api.Count},
	}
}

// named returns a part with a name.
func named(name string) api.BuildPart { return api.BuildPart{Name: name} }

// partCases are those of parts.
func partCases() []bellCase {
	part := func(change func(p *api.BuildPart)) func(b *api.BuildBook) {
		return func(b *api.BuildBook) { b.Trials = nil; change(&b.Parts[1]) }
	}
	name := func(name string) func(b *api.BuildBook) {
		return part(func(p *api.BuildPart) { p.Name = name })
	}
	cost := func(n int) func(b *api.BuildBook) { return part(func(p *api.BuildPart) { p.Cost = n }) }
	stock := func(n int) func(b *api.BuildBook) { return part(func(p *api.BuildPart) { p.Stock = n }) }
	time := func(low, high int) func(b *api.BuildBook) {
		return part(func(p *api.BuildPart) { p.Time = to(low, high) })
	}
	fits := func(list ...int) func(b *api.BuildBook) { return part(func(p *api.BuildPart) { p.Fits = list }) }
	return []bellCase{
		{"another name", name("a0"), api.Fine}, {"a name at the limit", name("abcdefghij"), api.Fine}, {"a name above the limit", name("abcdefghijk"), api.Label}, {"no name", name(""), api.Label}, {"a great letter", name("Gear"), api.Label}, {"a digit first", name("0gear"), api.Label}, {"a blank", name("a b"), api.Label}, {"a line feed", name("a\n"), api.Label}, {"other letters", name("r\u00e4d"), api.Label}, {"a very long name", name(strings.Repeat("a", 1000000)), api.Label},
		{"an earlier name", name("cam"), api.Twice}, {"a later name", name("pawl"), api.Twice},
		{"costs nothing", cost(0), api.Fine}, {"cost below 0", cost(-1), api.Bound}, {"cost at the limit", cost(99), api.Fine}, {"cost above the limit", cost(100), api.Bound}, {"a very great cost", cost(math.MaxInt), api.Bound},
		{"none there", stock(0), api.Fine}, {"stock below 0", stock(-1), api.Bound}, {"stock at the limit", stock(3), api.Fine}, {"stock above the limit", stock(4), api.Bound}, {"a very small stock", stock(math.MinInt), api.Bound},
		{"time of 0", time(0, 0), api.Fine}, {"time at the limit", time(20, 20), api.Fine}, {"time above the limit", time(21, 21), api.Bound}, {"time below 0", time(-1, 0), api.Bound}, {"time that is no span", time(3, 2), api.Bound}, {"four numbers", time(17, 20), api.Fine}, {"five numbers", time(0, 4), api.Bound}, {"four numbers above the limit", time(18, 21), api.Bound}, {"a very wide time", time(math.MinInt, math.MaxInt), api.Bound}, {"a time that is no span at all", time(math.MaxInt, math.MinInt), api.Bound},
		{"fits nowhere", fits(), api.Fine}, {"fits everywhere", fits(0, 1, 2), api.Fine}, {"fits the last place", fits(2), api.Fine}, {"fits no place", fits(3), api.Missing}, {"fits a place below 0", fits(-1), api.Missing}, {"fits a place far away", fits(math.MaxInt), api.Missing}, {"fits a place twice", fits(1, 1), api.Order}, {"fits places that fall", fits(2, 1), api.Order},
		// number by number
		{"places that fall, then no place", fits(2, 1, 9), api.Order}, {"no place, then places that fall", fits(0, 9, 1), api.Missing}, {"no place that falls", fits(1, -1), api.Missing}, {"very many places", fits(make([]int, 1000000)...), api.Order},
		// the first one decides
		{"no name, and a wrong cost", part(func(p *api.BuildPart) { p.Name, p.Cost = "", -1 }), api.Label}, {"an earlier name, and a wrong stock", part(func(p *api.BuildPart) { p.Name, p.Stock = "cam", -1 }), api.Twice}, {"a wrong time, and no place", part(func(p *api.BuildPart) { p.Time, p.Fits = to(3, 2), []int{9} }), api.Bound}, {"a wrong stock, and no place", part(func(p *api.BuildPart) { p.Stock, p.Fits = 4, []int{9} }), api.Bound},
		{"fits no place, before a name that is none", func(b *api.BuildBook) { b.Parts[0].Fits = []int{9}; b.Parts[1].Name = "" }, api.Missing}, {"no name that is an earlier one, too", func(b *api.BuildBook) { b.Parts[1].Name, b.Parts[2].Name = "X", "X" }, api.Label},
		{"fits no place, and too many pairs", func(b *api.BuildBook) { b.Parts[2].Fits = []int{9}; b.Apart = make([]api.BuildPair, 6) }, api.Missing},
	}
}

// pairCases are those of pairs.
func pairCases() []bellCase {
	pairs := func(list ...api.BuildPair) func(b *api.BuildBook) {
		return func(b *api.BuildBook) { b.Trials, b.Apart = nil, list }
	}
	return []bellCase{
		{"no pairs", pairs(), api.Fine}, {"pairs at the limit", pairs(pair(0, 0), pair(0, 1), pair(0, 2), pair(1, 1), pair(1, 2)), api.Fine}, {"pairs above the limit", pairs(pair(0, 0), pair(0, 1), pair(0, 2), pair(1, 1), pair(1, 2), pair(2, 2)), api.Count}, {"very many pairs", pairs(make([]api.BuildPair, 1000)...), api.Count},
		{"no first part", pairs(pair(3, 3)), api.Missing}, {"no second part", pairs(pair(0, 3)), api.Missing}, {"a part below 0", pairs(pair(-1, 0)), api.Missing}, {"a second part below 0", pairs(pair(0, -1)), api.Missing}, {"parts far away", pairs(pair(math.MinInt, math.MaxInt)), api.Missing},
		{"parts that fall", pairs(pair(2, 1)), api.Order}, {"two of a kind", pairs(pair(2, 2)), api.Fine}, {"a pair twice", pairs(pair(0, 1), pair(1, 2), pair(0, 1)), api.Twice}, {"parts of earlier pairs", pairs(pair(0, 1), pair(1, 2), pair(0, 2)), api.Fine},
		// the first one decides
		{"no part, and parts that fall", pairs(pair(3, 1)), api.Missing}, {"a pair the other way round", pairs(pair(0, 1), pair(1, 0)), api.Order}, {"a pair twice, then no part", pairs(pair(0, 1), pair(0, 1), pair(0, 3)), api.Twice}, {"no part, then a pair twice", pairs(pair(0, 3), pair(0, 1), pair(0, 1)), api.Missing},
		{"too many pairs, all wrong", pairs(slices.Repeat([]api.BuildPair{pair(9, 8)}, 6)...), api.Count}, {"parts that fall, and too many trials", func(b *api.BuildBook) { b.Apart[0] = pair(2, 1); b.Trials = make([]api.BuildTrial, 5) }, api.Order},
	}
}

// trialCases are those of trials.
func trialCases() []bellCase {
	trials := func(list ...api.BuildTrial) func(b *api.BuildBook) {
		return func(b *api.BuildBook) { b.Trials = list }
	}
	took := func(low, high int) func(b *api.BuildBook) { return trials(trial(to(low, high), 2, 1, 2)) }
	all := to(0, 99)
	return []bellCase{
		{"no trials", trials(), api.Fine}, {"trials at the limit", trials(slices.Repeat([]api.BuildTrial{trial(all, 0, 0, 0)}, 4)...), api.Fine}, {"trials above the limit", trials(slices.Repeat([]api.BuildTrial{trial(all, 0, 0, 0)}, 5)...), api.Count}, {"very many trials", trials(make([]api.BuildTrial, 1000)...), api.Count}, {"trials that contradict each other", trials(trial(to(6, 6), 0, 0, 0), trial(to(7, 7), 0, 0, 0)), api.Fine},
		{"no machine", trials(trial(all)), api.Count}, {"too few parts", trials(trial(all, 0, 0)), api.Count}, {"too many parts", trials(trial(all, 0, 0, 0, 0)), api.Count}, {"very many parts of a trial", trials(trial(all, make([]int, 1000000)...)), api.Count},
		{"a part that is not there", trials(trial(all, 0, 3, 0)), api.Missing}, {"a part of a trial below 0", trials(trial(all, 0, 0, -1)), api.Missing}, {"a part of a trial far away", trials(trial(all, math.MaxInt, 0, 0)), api.Missing},
		{"a part that does not fit", trials(trial(all, 1, 0, 0)), api.Shape}, {"two that are a pair", trials(trial(all, 0, 1, 1)), api.Shape}, {"two that are a pair, the other way round", func(b *api.BuildBook) { b.Apart[0] = pair(1, 2); trials(trial(all, 2, 1, 0))(b) }, api.Shape}, {"two of a pair that are not beside each other", func(b *api.BuildBook) { b.Apart[0] = pair(2, 2) }, api.Fine},
		{"took 0", took(0, 0), api.Fine}, {"took all there is", took(0, 99), api.Fine}, {"took the limit", took(99, 99), api.Fine}, {"took more than the limit", took(99, 100), api.Bound}, {"took less than 0", took(-1, 6), api.Bound}, {"took no span", took(7, 6), api.Bound}, {"took anything", took(math.MinInt, math.MaxInt), api.Bound}, {"took nothing", took(math.MaxInt, math.MinInt), api.Bound},
		// the first one decides
		{"too few parts, one of them not there", trials(trial(all, 9, 0)), api.Count}, {"a part that does not fit, before one that is not there", trials(trial(all, 1, 0, 3)), api.Missing}, {"two that are a pair, and took no span", trials(trial(to(7, 6), 0, 1, 1)), api.Shape}, {"a part that is not there, and took too much", trials(trial(to(0, 100), 0, 0, 3)), api.Missing}, {"took no span, then too few parts", trials(trial(to(7, 6), 0, 0, 0), trial(all, 0)), api.Bound}, {"too few parts, then took no span", trials(trial(all, 0), trial(to(7, 6), 0, 0, 0)), api.Count},
		{"too many trials, all wrong", trials(slices.Repeat([]api.BuildTrial{trial(to(7, 6), 9)}, 5)...), api.Count}, {"the places of another book", func(b *api.BuildBook) { b.Places = 4 }, api.Count},
	}
}

// bellCases returns all cases.
func bellCases() []bellCase {
	return slices.Concat(headCases(), partCases(), pairCases(), trialCases())
}

// P5.1, P0.2: CheckBook returns the first bell, which all functions return then, with nothing else.
func TestBells(t *testing.T) {
	for _, x := range bellCases() {
		b := parse(t, textB)
		x.change(&b)
		if l := build.CheckBook(b); l != x.want {
			t.Errorf("%s: bell %d, want %d", x.name, l, x.want)
		}
		if x.want != api.Fine {
			onlyBell(t, x.name, b, x.want)
		}
	}
}

// onlyBell tells whether all functions return the bell of a book, and nothing else, even if they are asked for what is not there.
func onlyBell(t *testing.T, name string, b api.BuildBook, want api.Bell) {
	t.Helper()
	machines, l := build.Machines(b)
	why, l2 := build.Why(b)
	histories, l3 := build.Histories(b)
	clash, l4 := build.Clash(b)
	text, l5 := build.Print(b)
	got := show(machines, why, histories, clash, text, l, l2, l3, l4, l5)
	if got != show(0, []int{}, 0, []int{}, "", want, want, want, want, want) {
		t.Errorf("%s: %s", name, got)
	}
	if got := choices(b); got != bellsAlone(want, want) {
		t.Errorf("%s: %s", name, got)
	}
	for _, n := range []int{0, -1} {
		can, l := build.Can(b, n)
		times, l2 := build.Times(b, n)
		timed, l3 := build.Time(b, n, to(0, n))
		got := show(can, times, timed, l, l2, l3)
		if got != show([]int{}, []int{}, api.BuildBook{}, want, want, want) {
			t.Errorf("%s, %d: %s", name, n, got)
		}
	}
	for _, machine := range [][]int{nil, {0, 0, 0}, {9}} {
		if got := asked(b, machine); got != askedAlone(want, want) {
			t.Errorf("%s, %v: %s", name, machine, got)
		}
	}
}

// asked writes the results of the functions that take a machine.
func asked(b api.BuildBook, machine []int) string {
	different, l := build.Different(b, machine)
	cost, l2 := build.Cost(b, machine)
	turns, l3 := build.Turns(b, machine)
	late, l4 := build.Late(b, machine)
	tried, l5 := build.Try(b, trial(to(0, 99), machine...))
	return show(different, cost, turns, late, tried, l, l2, l3, l4, l5)
}

// askedAlone writes the results of these functions if all of them have a bell, and Try has another one.
func askedAlone(l, tried api.Bell) string {
	return show(0, 0, api.Span{}, api.Open, api.BuildBook{}, l, l, l, l, tried)
}

// P5.1, P5.2, P5.4, P0.2: a machine that is handed in has its bell, before it is Odds that there is no history.
func TestBellsOfMachines(t *testing.T) {
	for _, x := range []struct {
		machine []int
		want    api.Bell
	}{
		{nil, api.Count}, {[]int{0, 0}, api.Count}, {[]int{0, 0, 0, 0}, api.Count}, {make([]int, 1000000), api.Count}, {[]int{9, 9}, api.Count},
		{[]int{3, 0, 0}, api.Missing}, {[]int{0, -1, 0}, api.Missing}, {[]int{0, 0, math.MaxInt}, api.Missing}, {[]int{math.MinInt, 0, 0}, api.Missing}, {[]int{1, 3, 0}, api.Missing}, {[]int{0, 1, 3}, api.Missing}, {[]int{1, 1, 3}, api.Missing},
		{[]int{1, 0, 0}, api.Shape}, {[]int{0, 2, 0}, api.Shape}, {[]int{0, 1, 1}, api.Shape}, {[]int{1, 1, 1}, api.Shape},
	} {
		for _, text := range []string{textB, textOdd} {
			if got := asked(parse(t, text), x.machine); got != askedAlone(x.want, x.want) {
				t.Errorf("%.20q, %v: %s, want the bell %d", text, x.machine, got, x.want)
			}
		}
	}
}

// P5.1, P0.2: a machine beside whose parts others must not stand is none, in any order.
func TestPairsOfMachines(t *testing.T) {
	b := parse(t, "build 9 3\npart a 1 1 1 0+1+2\npart b 1 1 1 0+1+2\npart c 1 1 1 0+1+2\napart 0 1\napart 2 2\n")
	for _, list := range oracle.Combined(slices.Repeat([][]int{{0, 1, 2}}, 3)) {
		text := strings.NewReplacer("[", "", "]", "", " ", "").Replace(show(list))
		bell := api.Fine
		if strings.Contains(text, "01") || strings.Contains(text, "10") || strings.Contains(text, "22") {
			bell = api.Shape
		}
		if _, l := build.Cost(b, list); l != bell {
			t.Errorf("%v: bell %d, want %d", list, l, bell)
		}
	}
}

// P0.2: what is asked about and is not there is Missing before it is Odds that there is no history, which comes with nothing else, and before Short.
func TestBellsBeforeOdds(t *testing.T) {
	for _, text := range []string{textOdd, textClash, strings.Replace(textOdd, "build 8", "build 1", 1)} {
		b := parse(t, text)
		for _, n := range []int{math.MinInt, -1, 3, math.MaxInt} {
			can, l := build.Can(b, n)
			times, l2 := build.Times(b, n)
			timed, l3 := build.Time(b, n, to(2, 1))
			got := show(can, times, timed, l, l2, l3)
			if want := show([]int{}, []int{}, api.BuildBook{}, api.Missing, api.Missing, api.Missing); got != want {
				t.Errorf("%q, %d: %s", text, n, got)
			}
		}
		if got := choices(b); got != bellsAlone(api.Odds, api.Odds) {
			t.Errorf("%q: %s", text, got)
		}
		times, l := build.Times(b, 1)
		turns, l2 := build.Turns(b, []int{0, 0, 0})
		late, l3 := build.Late(b, []int{0, 0, 0})
		timed, l4 := build.Time(b, 1, to(0, 20))
		tried, l5 := build.Try(b, trial(to(0, 99), 0, 0, 0))
		got := show(times, turns, late, timed, tried, l, l2, l3, l4, l5)
		if want := show([]int{}, api.Span{}, api.Open, api.BuildBook{}, api.BuildBook{}, api.Odds, api.Odds, api.Odds, api.Odds, api.Odds); got != want {
			t.Errorf("%q: %s", text, got)
		}
		if n, l := build.Histories(b); n != 0 || l != api.Fine {
			t.Errorf("%q: %d histories, bell %d", text, n, l)
		}
		if got, l := build.Print(b); got != text || l != api.Fine {
			t.Errorf("Print: %q, bell %d", got, l)
		}
	}
	for _, text := range []string{textW, textBare, strings.Replace(textB, "build 8", "build 7", 1)} {
		b := parse(t, text)
		part, left, _ := build.Ask(b)
		safe, l := build.Safe(b)
		builds, l2 := build.Builds(b)
		none := []int{}
		want := show(0, none, 0, none, 0, none, api.Span{}, none, 0, part, left, api.Fine, api.Short, api.Short, api.Short, api.Short, api.Fine, api.Fine)
		if got := choices(b); got != want || safe+builds != 0 || l+l2 != api.Fine {
			t.Errorf("%q: %s, want %s", text, got, want)
		}
	}
}
