package wheels_test

import (
	"math"
	"slices"
	"testing"

	"nosale/api"
	"nosale/dice"
	"nosale/wheels"
)

// The chapter's examples.
func TestExamples(t *testing.T) {
	a, b, c := book(t, textA), book(t, textB), book(t, textC)
	fewA, _ := wheels.Fewest(a)
	fewB, _ := wheels.Fewest(b)
	sureA, _ := wheels.Slipped(a, 1, 0)
	sureB, _ := wheels.Slipped(b, 1, 0)
	tight, _ := wheels.Tight(a, 0)
	list := func(l []int, s api.Bell) string { return show(l, s) }
	number := func(n int, s api.Bell) string { return show(n, s) }
	look := func(ring, left int, s api.Bell) string { return show(ring, left, s) }
	ring := func(after, carries []int, s api.Bell) string { return show(after, carries, s) }
	for i, x := range []struct{ got, want string }{
		{number(wheels.Amount(a, []int{11, 19, 0})), show(239, api.Fine)},
		{list(wheels.Digits(a, 240)), show([]int{0, 0, 1}, api.Fine)},
		{ring(wheels.Ring(a, []int{11, 19, 0}, []int{1, 0, 0})), show([]int{0, 0, 1}, []int{0, 1}, api.Fine)},
		{list(wheels.Slide(a, []int{11, 19, 0}, []int{1, 0, 0}, []int{0})), show([]int{0, 19, 0}, api.Fine)},
		{number(wheels.Histories(a)), show(2, api.Fine)},
		{list(wheels.Shows(a, 2)), show([]int{228, 240}, api.Fine)},
		{list(wheels.Errors(a)), show([]int{-12, 0}, api.Fine)},
		{show(fewA, fewB), show([]api.WheelsSlip{}, []api.WheelsSlip{{Ring: 1, Wheel: 0}})},
		{show(sureA, sureB), show(api.Open, api.Yes)},
		{number(wheels.Histories(c)), show(0, api.Fine)},
		{list(wheels.Clash(c)), show([]int{1}, api.Fine)},
		{look(wheels.Look(a)), show(1, 1, api.Fine)},
		{number(wheels.Histories(tight)), show(1, api.Fine)},
		{list(wheels.Next(a, []int{0, 0, 9})), show([]int{0, 2388}, api.Fine)},
		{list(wheels.Next(a, []int{1, 0, 0})), show([]int{229, 241}, api.Fine)},
		{number(wheels.Sum(a)), show(240, api.Fine)},
	} {
		if x.got != x.want {
			t.Errorf("example %d: %s, want %s", i, x.got, x.want)
		}
	}
}

// P0.1: each function returns, whatever it is called with, and returns the same to several goroutines.
func TestAlwaysTheSame(t *testing.T) {
	d := dice.Dice(5)
	books := []api.WheelsBook{book(t, textA), book(t, textB), book(t, textC), book(t, textD), book(t, textE), {}}
	for _, x := range bellCases() {
		b := book(t, textA)
		x.change(&b)
		books = append(books, b)
	}
	for i := range 20 {
		b, _ := anyBook(&d, i%2 == 0)
		books = append(books, b)
	}
	layer().AlwaysTheSame(t, report, books...)
}

// P0.1: numbers that are very great or very small, and slices that are very long, have a bell.
func TestGarbage(t *testing.T) {
	d := dice.Dice(6)
	odd := []int{math.MinInt, math.MinInt + 1, -3, -2, -1, 0, 1, 2, 3, 20, 21, math.MaxInt}
	some := func() []int {
		var list []int
		for range d.Roll(4) {
			list = append(list, odd[d.Roll(len(odd))])
		}
		return list
	}
	for range 300 {
		b := api.WheelsBook{Most: odd[3+d.Roll(6)], Start: some()}
		for range d.Roll(4) {
			b.Wheels = append(b.Wheels, api.WheelsWheel{Base: odd[d.Roll(len(odd))], Kind: api.WheelsKind(odd[d.Roll(len(odd))])})
		}
		for range d.Roll(8) {
			b.Rings = append(b.Rings, api.WheelsRing{Keys: some(), Read: some()})
		}
		report(b)
	}
	long := book(t, textA)
	long.Rings[0].Keys = make([]int, 1000000)
	if _, s := wheels.Histories(long); s != api.Count {
		t.Errorf("a million keys: bell %d", s)
	}
	if _, s := wheels.Amount(book(t, textA), make([]int, 1000000)); s != api.Count {
		t.Errorf("a million digits: bell %d", s)
	}
	if _, s := wheels.Slide(book(t, textA), []int{0, 0, 0}, []int{0, 0, 0}, make([]int, 1000000)); s != api.Order {
		t.Errorf("a million slips: bell %d", s)
	}
}

// R3: it makes no difference whether a slice is nil or empty.
func TestNilOrEmpty(t *testing.T) {
	empty := book(t, textA)
	for r := range empty.Rings {
		empty.Rings[r].Read = []int{}
	}
	if report(empty) != report(book(t, textA)) {
		t.Error("an empty Read and none make a difference")
	}
	none := book(t, textP)
	none.Rings = []api.WheelsRing{}
	if report(none) != report(book(t, textP)) {
		t.Error("empty Rings and none make a difference")
	}
}

// R4: books that are returned share no memory with those that are handed in, nor with digits.
func TestNoSharedMemory(t *testing.T) {
	spoil := func(b api.WheelsBook) {
		b.Wheels[0].Base, b.Start[0] = 77, 77
		for r := range b.Rings {
			b.Rings[r].Keys[0] = 77
			for w := range b.Rings[r].Read {
				b.Rings[r].Read[w] = 77
			}
			b.Rings[r] = api.WheelsRing{}
		}
	}
	a := book(t, textE)
	digits := []int{0, -1, 1}
	read, s := wheels.Read(a, 0, digits)
	tight, z := wheels.Tight(a, 0)
	if s != api.Fine || z != api.Fine {
		t.Fatal(s, z)
	}
	spoil(read)
	spoil(tight)
	if text, _ := wheels.Print(a); text != textE || digits[0] != 0 {
		t.Errorf("a result shares memory with the book or the digits: %q, %v", text, digits)
	}
	read, _ = wheels.Read(a, 0, digits)
	want := show(read)
	digits[0] = 77
	spoil(a)
	if show(read) != want {
		t.Errorf("what is handed in shares memory with a result: %v", read)
	}
}

// P1.5: without a slip the wheels show what they showed at first, and the sum, modulo the range.
func TestWithoutSlips(t *testing.T) {
	d := dice.Dice(7)
	for range 500 {
		b, _ := anyBook(&d, false)
		for r := range b.Rings {
			b.Rings[r].Read = nil
		}
		digits := anyDigits(&d, b)
		b.Most, b.Start = 0, digits
		size, _ := wheels.Range(b)
		sum, _ := wheels.Sum(b)
		first, _ := wheels.Amount(b, digits)
		want := []int{(first + sum) % size}
		if l, s := wheels.Shows(b, len(b.Rings)); !slices.Equal(l, want) || s != api.Fine {
			t.Errorf("%v: shows %v, want %v", b, l, want)
		}
		for _, r := range b.Rings {
			digits, _, _ = wheels.Ring(b, digits, r.Keys)
		}
		if n, _ := wheels.Amount(b, digits); n != want[0] {
			t.Errorf("%v: rung one by one %d, want %d", b, n, want[0])
		}
		if l, s := wheels.Errors(b); !slices.Equal(l, []int{0}) || s != api.Fine {
			t.Errorf("%v: errors %v, bell %d", b, l, s)
		}
	}
}

// P1.6, P0.4: what really happened is among all that is told.
func TestWhateverSlipped(t *testing.T) {
	d := dice.Dice(8)
	for range 500 {
		b, truth := anyBook(&d, false)
		if n, s := wheels.Histories(b); n < 1 || s != api.Fine {
			t.Errorf("%v: %d histories, bell %d", b, n, s)
		}
		for r, digits := range truth.shown {
			n, _ := wheels.Amount(b, digits)
			if l, _ := wheels.Shows(b, r); !slices.Contains(l, n) {
				t.Errorf("%v: %d is not shown behind %d rings: %v", b, n, r, l)
			}
		}
		if l, _ := wheels.Errors(b); !slices.Contains(l, off(b, truth)) {
			t.Errorf("%v: %d is not among the errors %v", b, off(b, truth), l)
		}
		for r := range b.Rings {
			for w := range b.Wheels {
				sure, _ := wheels.Slipped(b, r, w)
				did := slices.Contains(truth.slips, api.WheelsSlip{Ring: r, Wheel: w})
				if sure == api.Yes && !did || sure == api.No && did {
					t.Errorf("%v: the carry %d, %d slipped: %v, but it is told %d", b, r, w, did, sure)
				}
			}
		}
		if l, s := wheels.Fewest(b); len(l) > len(truth.slips) || s != api.Fine {
			t.Errorf("%v: no fewer than %v, bell %d", b, l, s)
		}
		if l, _ := wheels.Clash(b); len(l) > 0 {
			t.Errorf("%v: what really happened clashes: %v", b, l)
		}
	}
}

// P1.8, P0.6: what was read never adds a history, and takes back nothing that was sure; where Look says, no more are left than it says.
func TestKnowingMore(t *testing.T) {
	d := dice.Dice(9)
	for range 300 {
		b, truth := anyBook(&d, false)
		where, left, _ := wheels.Look(b)
		before, _ := wheels.Histories(b)
		if where == -1 && left != before {
			t.Errorf("%v: there are %d histories, but Look tells %d", b, before, left)
		}
		for r, x := range b.Rings {
			if len(x.Read) > 0 {
				continue
			}
			o, s := wheels.Read(b, r, truth.shown[r+1])
			if s != api.Fine {
				t.Errorf("%v: what is shown is not read behind %d: bell %d", b, r, s)
			}
			n, _ := wheels.Histories(o)
			if n > before || r == where && n > left {
				t.Errorf("%v: %d histories are left behind %d, of %d; Look tells %d", b, n, r, before, left)
			}
			noLessSure(t, b, o)
		}
	}
}

// noLessSure tells whether o, in which more is known than in b, makes nothing possible that was not, and takes back nothing that was sure.
func noLessSure(t *testing.T, b, o api.WheelsBook) {
	t.Helper()
	within := func(few, all []int) bool {
		for _, n := range few {
			if !slices.Contains(all, n) {
				return false
			}
		}
		return true
	}
	for r := range len(b.Rings) + 1 {
		old, _ := wheels.Shows(b, r)
		if now, _ := wheels.Shows(o, r); !within(now, old) {
			t.Errorf("%v: shows %v, then %v", b, old, now)
		}
	}
	old, _ := wheels.Errors(b)
	if now, _ := wheels.Errors(o); !within(now, old) {
		t.Errorf("%v: errors %v, then %v", b, old, now)
	}
	few, _ := wheels.Fewest(b)
	if now, _ := wheels.Fewest(o); len(now) < len(few) {
		t.Errorf("%v: fewest %v, then %v", b, few, now)
	}
	for r := range b.Rings {
		for w := range b.Wheels {
			old, _ := wheels.Slipped(b, r, w)
			if now, _ := wheels.Slipped(o, r, w); old != api.Open && now != old {
				t.Errorf("%v: the carry %d, %d was %d, then %d", b, r, w, old, now)
			}
		}
	}
}

// P0.5: what a book leaves open is found once more is read, or a wheel is known to be tight.
func TestWhatIsMissing(t *testing.T) {
	a := book(t, textA)
	b, s := wheels.Read(a, 1, []int{0, 0, 1})
	sure, _ := wheels.Slipped(b, 1, 0)
	if s != api.Fine || sure != api.No {
		t.Errorf("read without a slip: %d, bell %d", sure, s)
	}
	b, s = wheels.Read(a, 1, []int{-1, 19, -1})
	sure, _ = wheels.Slipped(b, 1, 0)
	if s != api.Fine || sure != api.Yes {
		t.Errorf("read with a slip: %d, bell %d", sure, s)
	}
	b, s = wheels.Tight(a, 0)
	sure, _ = wheels.Slipped(b, 1, 0)
	if s != api.Fine || sure != api.No {
		t.Errorf("tight: %d, bell %d", sure, s)
	}
}

// P1.9: a carry that drops makes the wheels show less, by the unit of the next wheel; one that doubles makes them show as much more, unless a wheel passes its base twice.
func TestOneSlip(t *testing.T) {
	d := dice.Dice(10)
	drops, doubles := 0, 0
	for range 2000 {
		b, _ := anyBook(&d, false)
		digits, keys := anyDigits(&d, b), anyDigits(&d, b)
		after, carries, _ := wheels.Ring(b, digits, keys)
		size, _ := wheels.Range(b)
		plain, _ := wheels.Amount(b, after)
		for _, w := range carries {
			if w == len(b.Wheels)-1 || b.Wheels[w].Kind == api.WheelsTight {
				continue
			}
			slid, s := wheels.Slide(b, digits, keys, []int{w})
			n, _ := wheels.Amount(b, slid)
			unit := make([]int, len(b.Wheels))
			unit[w+1] = 1
			by := worth(b, unit)
			next := b.Wheels[w+1].Base
			switch {
			case b.Wheels[w].Kind == api.WheelsDrops:
				drops++
				by = -by
			case digits[w+1]+keys[w+1]+2 >= 2*next:
				continue
			default:
				doubles++
			}
			if s != api.Fine || (n-plain-by)%size != 0 {
				t.Errorf("%v: %v and %v: %d, with the slip of %d %d, bell %d", b.Wheels, digits, keys, plain, w, n, s)
			}
		}
	}
	if drops < 50 || doubles < 50 {
		t.Errorf("only %d carries dropped, and %d doubled", drops, doubles)
	}
}

// P1.10: rings without slips can be rung in any order.
func TestAnyOrder(t *testing.T) {
	d := dice.Dice(11)
	for range 300 {
		b, _ := anyBook(&d, false)
		digits := anyDigits(&d, b)
		there, back := slices.Clone(digits), slices.Clone(digits)
		for i := range b.Rings {
			there, _, _ = wheels.Ring(b, there, b.Rings[i].Keys)
			back, _, _ = wheels.Ring(b, back, b.Rings[len(b.Rings)-1-i].Keys)
		}
		if !slices.Equal(there, back) {
			t.Errorf("%v: %v, in the other order %v", b, there, back)
		}
		turned := clone(b)
		for r := range turned.Rings {
			turned.Rings[r].Read = nil
		}
		turned.Most = 0
		want, _ := wheels.Shows(turned, len(b.Rings))
		slices.Reverse(turned.Rings)
		if l, s := wheels.Shows(turned, len(b.Rings)); !slices.Equal(l, want) || s != api.Fine {
			t.Errorf("%v: shows %v, want %v", turned, l, want)
		}
	}
}

// P1.10: what is rung all at once without a carry shows what each key shows.
func TestAllAtOnce(t *testing.T) {
	d := dice.Dice(12)
	for range 300 {
		b, _ := anyBook(&d, false)
		keys := anyDigits(&d, b)
		digits := make([]int, len(keys))
		for w, k := range keys {
			digits[w] = d.Roll(b.Wheels[w].Base - k)
		}
		after, carries, s := wheels.Ring(b, digits, keys)
		if len(carries) > 0 || s != api.Fine {
			t.Errorf("%v: %v and %v carry: %v, bell %d", b.Wheels, digits, keys, carries, s)
		}
		one := slices.Clone(digits)
		for w, k := range keys {
			if after[w] != digits[w]+k {
				t.Errorf("%v: %v and %v show %v", b.Wheels, digits, keys, after)
			}
			single := make([]int, len(keys))
			single[w] = k
			one, _, _ = wheels.Ring(b, one, single)
		}
		if !slices.Equal(one, after) {
			t.Errorf("%v: %v and %v show %v, key by key %v", b.Wheels, digits, keys, after, one)
		}
	}
}
