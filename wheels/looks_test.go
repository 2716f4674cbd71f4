package wheels_test

import (
	"math"
	"slices"
	"strings"
	"testing"

	"nosale/api"
	"nosale/dice"
	"nosale/wheels"
)

// P1.3: Clash and Look of some books.
func TestClashAndLook(t *testing.T) {
	const twice = "wheels 1\nwheel 2 drops\nwheel 2 tight\nstart 1+0\nring 1+0 none\nring 1+0 none\n"
	for _, x := range []struct {
		text       string
		clash      []int
		ring, left int
		s          api.Bell
	}{
		{textP, nil, -1, 1, api.Fine},
		{textA, nil, 1, 1, api.Fine},
		{textB, nil, -1, 1, api.Fine},
		{textC, []int{1}, 0, 0, api.Odds},
		{strings.Replace(textA, "11+19+0 none", "11+19+0 0+-1+-1", 1), []int{0}, 0, 0, api.Odds},
		{strings.Replace(textD, "wheels 2", "wheels 1", 1), nil, 0, 1, api.Fine},
		// each of two looks takes a slip if the other one is true
		{"wheels 1\nwheel 2 drops\nwheel 2 tight\nstart 1+0\nring 1+0 0+0\nring 1+0 none\nring 1+0 0+0\n", []int{0, 2}, 0, 0, api.Odds},
		{"wheels 1\nwheel 2 drops\nwheel 2 tight\nstart 1+0\nring 1+0 0+0\nring 1+0 none\nring 1+0 0+1\n", nil, -1, 1, api.Fine},
		{"wheels 0\nwheel 3 tight\nstart -1\nring 1 0\nring 1 1\nring 1 0\nring 1 2\n", []int{0, 2}, 0, 0, api.Odds},
		{"wheels 0\nwheel 3 tight\nstart -1\nring 1 none\nring 1 1\nring 1 0\n", []int{1, 2}, 0, 0, api.Odds},
		// a look that cannot be clashes alone, whatever clashes before it; and of two lists with two looks the least one is told
		{"wheels 0\nwheel 3 tight\nwheel 3 tight\nstart -1+0\nring 1+0 0+-1\nring 1+0 0+-1\nring 0+0 -1+2\n", []int{2}, 0, 0, api.Odds},
		{"wheels 0\nwheel 3 tight\nwheel 3 tight\nstart -1+-1\nring 0+0 0+-1\nring 0+0 -1+0\nring 0+0 -1+1\nring 0+0 1+-1\n", []int{0, 3}, 0, 0, api.Odds},
		// three looks of which any two can be together
		{"wheels 0\nwheel 3 tight\nwheel 3 tight\nstart -1+-1\nring 0+0 -1+0\nring 0+0 0+-1\nring 2+0 -1+1\n", []int{0, 1, 2}, 0, 0, api.Odds},
		// wherever one looks, the same is left: the least index
		{"wheels 0\nwheel 3 tight\nstart -1\nring 1 none\nring 1 none\n", nil, 0, 1, api.Fine},
		{"wheels 0\nwheel 3 tight\nstart -1\nring 1 -1\nring 1 none\n", nil, 1, 1, api.Fine},
		{"wheels 0\nwheel 3 tight\nstart 0\nring 1 none\n", nil, -1, 1, api.Fine},
		{twice, nil, 0, 1, api.Fine},
	} {
		b := book(t, x.text)
		if l, s := wheels.Clash(b); !slices.Equal(l, x.clash) || s != api.Fine {
			t.Errorf("%q: Clash: %v, bell %d", x.text, l, s)
		}
		if ring, left, s := wheels.Look(b); ring != x.ring || left != x.left || s != x.s {
			t.Errorf("%q: Look: %d, %d, bell %d", x.text, ring, left, s)
		}
	}
}

// P1.3: Read adds what was read, or returns its bell; the old book stays as it was.
func TestRead(t *testing.T) {
	for _, x := range []struct {
		text   string
		ring   int
		digits []int
		want   string
		s      api.Bell
	}{
		{textA, 1, []int{0, 19, 0}, textB, api.Fine},
		{textA, 1, []int{0, -1, -1}, strings.Replace(textB, "0+19+0\n", "0+-1+-1\n", 1), api.Fine},
		{textA, 1, []int{-1, -1, -1}, strings.Replace(textB, "0+19+0\n", "-1+-1+-1\n", 1), api.Fine},
		{textA, 0, []int{11, 19, 0}, strings.Replace(textA, "11+19+0 none", "11+19+0 11+19+0", 1), api.Fine},
		{textA, 1, []int{0, 0, 2}, "", api.Odds},
		{textA, 2, nil, "", api.Missing}, {textA, -1, []int{99}, "", api.Missing}, {textA, math.MaxInt, nil, "", api.Missing},
		{textA, 1, nil, "", api.Count}, {textA, 1, []int{0, 99}, "", api.Count}, {textA, 1, []int{0, 0, 0, 0}, "", api.Count},
		{textA, 1, []int{12, 0, 0}, "", api.Bound}, {textA, 1, []int{0, -2, 0}, "", api.Bound}, {textA, 1, []int{0, 0, math.MaxInt}, "", api.Bound},
		{textB, 1, []int{0, 19, 0}, "", api.Twice}, {textB, 1, []int{0, 0, 2}, "", api.Twice}, {textB, 1, []int{0, 19}, "", api.Count}, {textB, 1, []int{0, 19, 10}, "", api.Bound},
		{strings.Replace(textB, "0+19+0\n", "-1+-1+-1\n", 1), 1, []int{0, 19, 0}, "", api.Twice},
		{textC, 0, []int{11, 19, 0}, "", api.Odds}, {textC, 1, []int{0, 19, 0}, "", api.Twice},
	} {
		b := book(t, x.text)
		o, s := wheels.Read(b, x.ring, x.digits)
		if text, _ := wheels.Print(o); text != x.want || s != x.s {
			t.Errorf("Read(%q, %d, %v): %q, bell %d", x.text, x.ring, x.digits, text, s)
		}
		if text, _ := wheels.Print(b); text != x.text {
			t.Errorf("Read(%q, %d, %v) changes the book: %q", x.text, x.ring, x.digits, text)
		}
	}
}

// P1.3: Tight makes a wheel tight, if there is a history then.
func TestTight(t *testing.T) {
	for _, x := range []struct {
		text  string
		wheel int
		want  string
		s     api.Bell
	}{
		{textA, 0, strings.Replace(textA, "drops", "tight", 1), api.Fine},
		{textA, 1, textA, api.Fine},
		{textA, 2, strings.Replace(textA, "doubles", "tight", 1), api.Fine},
		{textB, 2, strings.Replace(textB, "doubles", "tight", 1), api.Fine},
		{textB, 0, "", api.Odds}, {textC, 0, "", api.Odds},
		{textA, 3, "", api.Missing}, {textC, -1, "", api.Missing}, {textA, math.MaxInt, "", api.Missing},
	} {
		b := book(t, x.text)
		o, s := wheels.Tight(b, x.wheel)
		if text, _ := wheels.Print(o); text != x.want || s != x.s {
			t.Errorf("Tight(%q, %d): %q, bell %d", x.text, x.wheel, text, s)
		}
		if text, _ := wheels.Print(b); text != x.text {
			t.Errorf("Tight(%q, %d) changes the book: %q", x.text, x.wheel, text)
		}
	}
}

// P1.3: Next shows what can be shown behind one more ring, even behind as many as a book can have.
func TestNext(t *testing.T) {
	const full = "wheels 1\nwheel 2 drops\nwheel 2 tight\nstart 1+0\n" + "ring 0+0 none\nring 0+0 none\nring 0+0 none\nring 0+0 none\nring 0+0 none\n"
	for _, x := range []struct {
		text string
		keys []int
		want []int
		s    api.Bell
	}{
		{textA, []int{0, 0, 9}, []int{0, 2388}, api.Fine},
		{textA, []int{1, 0, 0}, []int{229, 241}, api.Fine},
		{textA, []int{0, 0, 0}, []int{228, 240}, api.Fine},
		{textB, []int{11, 0, 0}, []int{239}, api.Fine},
		{textP, []int{1, 2, 3}, []int{745}, api.Fine},
		{full + "ring 0+0 none\n", []int{1, 0}, []int{0, 2}, api.Fine},
		{full + "ring 1+0 none\n", []int{1, 1}, []int{1, 3}, api.Fine},
		{full + "ring 1+0 none\n", []int{0, 0}, []int{0, 2}, api.Fine},
		// the slip that there can be is in the book already, so that none is left
		{full + "ring 1+0 0+0\n", []int{1, 0}, []int{1}, api.Fine},
		{textC, []int{0, 0, 9}, nil, api.Odds}, {textC, []int{0, 0}, nil, api.Count}, {textC, []int{0, 0, -1}, nil, api.Bound},
		{textA, nil, nil, api.Count}, {textA, []int{0, 0, 10}, nil, api.Bound}, {textA, []int{0, 0, 0, 0}, nil, api.Count},
	} {
		if l, s := wheels.Next(book(t, x.text), x.keys); !slices.Equal(l, x.want) || s != x.s {
			t.Errorf("Next(%q, %v): %v, bell %d", x.text, x.keys, l, s)
		}
	}
}

// P1.3, P1.8: what is told of looks is what the histories tell.
func TestLooksLikeOracle(t *testing.T) {
	d := dice.Dice(3)
	for i := range 600 {
		b, _ := anyBook(&d, i%3 != 0)
		all := pasts(b)
		want := api.Fine
		if len(all) == 0 {
			want = api.Odds
		}
		if l, s := wheels.Clash(b); !slices.Equal(l, clashOf(b)) || s != api.Fine {
			t.Errorf("%v: Clash: %v, bell %d", b, l, s)
		}
		ring, left := lookOf(b, all)
		if len(all) == 0 {
			ring = 0
		}
		if r, n, s := wheels.Look(b); r != ring || n != left || s != want {
			t.Errorf("%v: Look: %d, %d, bell %d", b, r, n, s)
		}
		keys := anyDigits(&d, b)
		next := clone(b)
		next.Rings = append(next.Rings, api.WheelsRing{Keys: keys})
		if l, s := wheels.Next(b, keys); !slices.Equal(l, amountsBehind(next, pasts(next), len(next.Rings))) || s != want {
			t.Errorf("%v: Next %v: %v, bell %d", b, keys, l, s)
		}
		changesLikeOracle(t, &d, b)
	}
}

// changesLikeOracle compares the books of Read and Tight with those that are changed here.
func changesLikeOracle(t *testing.T, d *dice.Dice, b api.WheelsBook) {
	t.Helper()
	wheel := d.Roll(len(b.Wheels))
	tight := clone(b)
	tight.Wheels[wheel].Kind = api.WheelsTight
	o, s := wheels.Tight(b, wheel)
	if len(pasts(tight)) == 0 {
		tight = api.WheelsBook{}
	}
	if show(o) != show(tight) || s == api.Fine != (len(tight.Wheels) > 0) || s != api.Fine && s != api.Odds {
		t.Errorf("%v: Tight %d: %v, bell %d", b, wheel, o, s)
	}
	for r, x := range b.Rings {
		digits := anyDigits(d, b)
		digits[d.Roll(len(digits))] = -1
		o, s := wheels.Read(b, r, digits)
		read, want := clone(b), api.Fine
		read.Rings[r].Read = digits
		switch {
		case len(x.Read) > 0:
			read, want = api.WheelsBook{}, api.Twice
		case len(pasts(read)) == 0:
			read, want = api.WheelsBook{}, api.Odds
		}
		if show(o) != show(read) || s != want {
			t.Errorf("%v: Read %d, %v: %v, bell %d", b, r, digits, o, s)
		}
	}
}
