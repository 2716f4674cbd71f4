package build_test

import (
	"math"
	"slices"
	"strings"
	"testing"

	"nosale/api"
	"nosale/build"
	"nosale/dice"
	"nosale/oracle"
)

// P0.1: each function returns, whatever it is called with, and returns the same to several goroutines; it changes nothing.
func TestAlwaysTheSame(t *testing.T) {
	d := dice.Dice(6)
	books := []api.BuildBook{{}}
	for _, text := range texts() {
		books = append(books, parse(t, text))
	}
	for i, x := range bellCases() {
		b := parse(t, textB)
		x.change(&b)
		if x.want != api.Fine || i%5 == 0 {
			books = append(books, b)
		}
	}
	for i := range 30 {
		b, _ := anyBook(&d, i%2 == 0)
		books = append(books, b)
	}
	layer().AlwaysTheSame(t, report, books...)
}

// P0.1: numbers that are very great or very small, and slices that are very long, have a bell.
func TestGarbage(t *testing.T) {
	d := dice.Dice(7)
	odd := []int{math.MinInt, -1, 0, 0, 1, 1, 2, 3, 4, 5, 20, 99, math.MaxInt}
	some := func() int { return odd[d.Roll(len(odd))] }
	list := func() []int {
		var list []int
		for range d.Roll(5) {
			list = append(list, some())
		}
		return list
	}
	for range 300 {
		b, _ := anyBook(&d, true)
		if d.Roll(3) == 0 {
			b.Beat, b.Places = some(), some()
		}
		for range d.Roll(2) {
			b.Parts = append(b.Parts, api.BuildPart{Name: []string{"x", "\xff", ""}[d.Roll(3)], Cost: some(), Stock: some(), Time: to(some(), some()), Fits: list()})
		}
		for range d.Roll(2) {
			b.Apart = append(b.Apart, pair(some(), some()))
		}
		for range d.Roll(2) {
			b.Trials = append(b.Trials, trial(to(some(), some()), list()...))
		}
		report(b)
	}
	for i, grow := range []func(b *api.BuildBook){
		func(b *api.BuildBook) { b.Parts = make([]api.BuildPart, 1000000) },
		func(b *api.BuildBook) { b.Apart = make([]api.BuildPair, 1000000) },
		func(b *api.BuildBook) { b.Trials = make([]api.BuildTrial, 1000000) },
		func(b *api.BuildBook) { b.Trials[0].Parts = make([]int, 1000000) },
	} {
		b := parse(t, textB)
		grow(&b)
		if _, l := build.Histories(b); l != api.Count {
			t.Errorf("a million, %d: bell %d", i, l)
		}
	}
}

// R3: it makes no difference whether a slice is nil or has no elements.
func TestNilOrEmpty(t *testing.T) {
	none, empty := parse(t, textBare), parse(t, textBare)
	none.Apart, none.Trials, none.Parts[0].Fits = nil, nil, nil
	empty.Apart, empty.Trials, empty.Parts[0].Fits = []api.BuildPair{}, []api.BuildTrial{}, []int{}
	if report(empty) != report(none) {
		t.Error("empty slices and none make a difference")
	}
	none.Parts, empty.Parts = nil, []api.BuildPart{}
	if report(empty) != report(none) {
		t.Error("empty parts and none make a difference")
	}
	none, empty = parse(t, textB), parse(t, textB)
	none.Trials[0].Parts, empty.Trials[0].Parts = nil, []int{}
	if report(empty) != report(none) {
		t.Error("an empty machine of a trial and none make a difference")
	}
	if got := asked(parse(t, textB), []int{}); got != askedAlone(api.Count, api.Count) {
		t.Errorf("an empty machine: %s", got)
	}
}

// R4: books that are returned share no memory with those that are handed in, nor with a trial.
func TestNoSharedMemory(t *testing.T) {
	spoil := func(b api.BuildBook) {
		for i := range b.Parts {
			b.Parts[i].Cost, b.Parts[i].Fits[0] = 77, 77
		}
		for i := range b.Apart {
			b.Apart[i] = pair(7, 7)
		}
		for i := range b.Trials {
			b.Trials[i].Took, b.Trials[i].Parts[0] = to(7, 7), 77
		}
	}
	machine := []int{0, 1, 2}
	news := func(b api.BuildBook) []api.BuildBook {
		tried, l := build.Try(b, trial(to(0, 99), machine...))
		timed, l2 := build.Time(b, 0, to(2, 2))
		if l+l2 != api.Fine {
			t.Fatal(l, l2)
		}
		return []api.BuildBook{tried, timed}
	}
	b := parse(t, textB)
	// room behind the elements must not be written to
	b.Trials = append(make([]api.BuildTrial, 0, 9), b.Trials...)
	trials := b.Trials[:2]
	for _, o := range news(b) {
		spoil(o)
	}
	if text, _ := build.Print(b); text != textB || len(trials[1].Parts) > 0 || !slices.Equal(machine, []int{0, 1, 2}) {
		t.Errorf("a result shares memory with what was handed in: %q, %v, %v", text, trials, machine)
	}
	all := news(b)
	spoil(b)
	machine[0] = 77
	for i, want := range []string{textB + "trial 0+1+2 0..99\n", strings.Replace(textB, "2..3", "2", 1)} {
		if text, _ := build.Print(all[i]); text != want {
			t.Errorf("what was handed in shares memory with a result: %q", text)
		}
	}
}

// P5.6, P0.4: whatever times the parts really have, they are among all that is told, and no safe machine is late.
func TestWhatReallyHappens(t *testing.T) {
	d := dice.Dice(8)
	safe := 0
	for range 500 {
		b, real := anyBook(&d, false)
		if n, l := build.Histories(b); n < 1 || l != api.Fine {
			t.Fatalf("%+v: %d histories, bell %d", b, n, l)
		}
		for part, time := range real {
			if list, l := build.Times(b, part); !slices.Contains(list, time) || l != api.Fine {
				t.Errorf("%+v, %v: Times %d is %v, bell %d", b, real, part, list, l)
			}
			if _, l := build.Time(b, part, to(time, time)); l != api.Fine {
				t.Errorf("%+v, %v: the time of %d cannot be known, bell %d", b, real, part, l)
			}
		}
		for _, machine := range machinesOf(b) {
			n := took(machine, real)
			if s, l := build.Turns(b, machine); n < s.Low || n > s.High || l != api.Fine {
				t.Errorf("%+v, %v: Turns %v is %v, bell %d", b, real, machine, s, l)
			}
			so := api.No
			if n > b.Beat {
				so = api.Yes
			}
			sure, l := build.Late(b, machine)
			if sure != api.Open && sure != so || l != api.Fine {
				t.Errorf("%+v, %v: Late %v is %d, bell %d", b, real, machine, sure, l)
			}
			if sure == api.No {
				safe++
			}
		}
		for _, choose := range []func(b api.BuildBook) ([]int, api.Bell){fewest, cheapest, swiftest} {
			if machine, l := choose(b); l == api.Fine && took(machine, real) > b.Beat {
				t.Errorf("%+v, %v: %v is chosen, but late", b, real, machine)
			}
		}
		if list, l := build.Clash(b); len(list) > 0 || l != api.Fine {
			t.Errorf("%+v: what really happened clashes: %v, bell %d", b, list, l)
		}
	}
	if safe < 500 {
		t.Errorf("only %d machines were safe", safe)
	}
}

func fewest(b api.BuildBook) ([]int, api.Bell) {
	machine, _, l := build.Fewest(b)
	return machine, l
}

func cheapest(b api.BuildBook) ([]int, api.Bell) {
	machine, _, l := build.Cheapest(b)
	return machine, l
}

func swiftest(b api.BuildBook) ([]int, api.Bell) {
	machine, _, l := build.Swiftest(b)
	return machine, l
}

// P5.6: each number that is told is that of a history: the book in which a part has just that time has one.
func TestReached(t *testing.T) {
	d := dice.Dice(9)
	for i := range 300 {
		b, _ := anyBook(&d, i%2 == 0)
		if n, _ := build.Histories(b); n == 0 {
			continue
		}
		for part := range b.Parts {
			list, _ := build.Times(b, part)
			for n := range api.MaxBuildTime + 1 {
				_, l := build.Time(b, part, to(n, n))
				if (l == api.Fine) != slices.Contains(list, n) || l != api.Fine && l != api.Odds {
					t.Errorf("%+v: Times %d is %v, but %d has the bell %d", b, part, list, n, l)
				}
			}
		}
		if len(b.Trials) == api.MaxBuildTrials {
			continue
		}
		for _, machine := range machinesOf(b) {
			s, _ := build.Turns(b, machine)
			sure, _ := build.Late(b, machine)
			_, late := build.Try(b, trial(to(min(api.MaxBuildTook, b.Beat+1), api.MaxBuildTook), machine...))
			_, inTime := build.Try(b, trial(to(0, b.Beat), machine...))
			if (late == api.Fine) != (sure != api.No) && b.Beat < api.MaxBuildTook || (inTime == api.Fine) != (sure != api.Yes) {
				t.Errorf("%+v: Late %v is %d, but trials have the bells %d, %d", b, machine, sure, late, inTime)
			}
			for _, n := range []int{s.Low, s.High} {
				if _, l := build.Try(b, trial(to(n, n), machine...)); l != api.Fine {
					t.Errorf("%+v: Turns %v is %v, but it cannot take %d, bell %d", b, machine, s, n, l)
				}
			}
			_, less := build.Try(b, trial(to(0, s.Low-1), machine...))
			_, more := build.Try(b, trial(to(s.High+1, api.MaxBuildTook), machine...))
			if s.Low > 0 && less != api.Odds || s.High < api.MaxBuildTook && more != api.Odds {
				t.Errorf("%+v: Turns %v is %v, but it can take less or more, bells %d, %d", b, machine, s, less, more)
			}
		}
	}
}

// P5.7: places for which there are no parts are so by themselves, and no fewer are.
func TestWhyAlone(t *testing.T) {
	d := dice.Dice(10)
	reasons := 0
	for range 600 {
		b, _ := anyBook(&d, false)
		list, l := build.Why(b)
		n, l2 := build.Machines(b)
		if (len(list) == 0) != (n > 0) || l+l2 != api.Fine {
			t.Errorf("%+v: %d machines, but %v, bells %d, %d", b, n, list, l, l2)
		}
		if len(list) == 0 {
			continue
		}
		reasons++
		if isFilled(b, list) {
			t.Errorf("%+v: there are parts for %v", b, list)
		}
		// with a part that fits the other places, and is in no pair, there is still no machine
		if o := clone(b); len(o.Parts) < api.MaxBuildParts {
			o.Parts = append(o.Parts, api.BuildPart{Name: "other", Fits: slices.DeleteFunc(oracle.UpTo(0, b.Places-1), func(place int) bool { return slices.Contains(list, place) })})
			if n, l := build.Machines(o); n != 0 || l != api.Fine {
				t.Errorf("%+v: %d machines when only %v cannot be filled, bell %d", b, n, list, l)
			}
		}
		for _, fewer := range oracle.Subsets(b.Places) {
			if len(fewer) < len(list) && !isFilled(b, fewer) {
				t.Errorf("%+v: there are no parts for %v, but neither for %v", b, list, fewer)
			}
		}
	}
	if reasons < 100 {
		t.Errorf("only %d books had no machine", reasons)
	}
}

// P5.8: no safe machine has fewer different parts, or costs less, no machine is swifter, and no safe machine lacks what is needed.
func TestBest(t *testing.T) {
	d := dice.Dice(11)
	many := 0
	for i := range 400 {
		b, _ := anyBook(&d, i%2 == 0)
		few, different, l := build.Fewest(b)
		cheap, cost, l2 := build.Cheapest(b)
		swift, turns, l3 := build.Swiftest(b)
		needs, l4 := build.Needs(b)
		if l != api.Fine {
			continue
		}
		many++
		for _, machine := range [][]int{few, cheap, swift} {
			if sure, l := build.Late(b, machine); sure != api.No || l+l2+l3+l4 != api.Fine {
				t.Errorf("%+v: %v is chosen, but Late is %d, bell %d", b, machine, sure, l)
			}
		}
		n, _ := build.Different(b, few)
		m, _ := build.Cost(b, cheap)
		s, _ := build.Turns(b, swift)
		if n != different || m != cost || s != turns {
			t.Errorf("%+v: %v with %d, not %d; %v for %d, not %d; %v in %v, not %v", b, few, different, n, cheap, cost, m, swift, turns, s)
		}
		lacked := make([]bool, len(b.Parts))
		for _, machine := range machinesOf(b) {
			s, _ := build.Turns(b, machine)
			if s.High < turns.High {
				t.Errorf("%+v: %v is swifter than %v", b, machine, swift)
			}
			if sure, _ := build.Late(b, machine); sure != api.No {
				continue
			}
			n, _ := build.Different(b, machine)
			m, _ := build.Cost(b, machine)
			if n < different || m < cost {
				t.Errorf("%+v: %v has %d parts for %d, but %v, %v were chosen", b, machine, n, m, few, cheap)
			}
			for part := range b.Parts {
				lacked[part] = lacked[part] || !slices.Contains(machine, part)
			}
		}
		for part := range b.Parts {
			if lacked[part] == slices.Contains(needs, part) {
				t.Errorf("%+v: %d is needed: %v", b, part, !lacked[part])
			}
		}
	}
	if many < 100 {
		t.Errorf("only %d books had a safe machine", many)
	}
}

// P5.9: as many machines as Builds says can be built, one after the other; with one part more never fewer.
func TestStock(t *testing.T) {
	d := dice.Dice(12)
	many := 0
	for range 400 {
		b, _ := anyBook(&d, false)
		n, l := build.Builds(b)
		if l != api.Fine {
			t.Fatal(l)
		}
		many += n
		most := 0
		for _, machine := range machinesOf(b) {
			if sure, _ := build.Late(b, machine); sure != api.No {
				continue
			}
			if left, enough := built(b, machine); enough {
				rest, l := build.Builds(left)
				most = max(most, 1+rest)
				if l != api.Fine {
					t.Errorf("%+v: bell %d once %v was built", b, l, machine)
				}
			}
		}
		if most != n {
			t.Errorf("%+v: Builds is %d, but %d can be built, one after the other", b, n, most)
		}
		for part := range b.Parts {
			if o := clone(b); o.Parts[part].Stock < api.MaxBuildStock {
				o.Parts[part].Stock++
				if more, l := build.Builds(o); more < n || more > n+1 || l != api.Fine {
					t.Errorf("%+v: Builds is %d, and %d with one more of %d, bell %d", b, n, more, part, l)
				}
			}
		}
	}
	if many < 100 {
		t.Errorf("only %d machines could be built", many)
	}
}
