package wheels_test

import (
	"math"
	"slices"
	"testing"

	"nosale/api"
	"nosale/dice"
	"nosale/wheels"
)

// P1.1: Range, Amount and Digits; the amounts from 0 to the range less 1 have digits, and no others.
func TestAmounts(t *testing.T) {
	p := book(t, textP)
	if n, s := wheels.Range(p); n != 2400 || s != api.Fine {
		t.Errorf("Range: %d, bell %d", n, s)
	}
	for n := range 2400 {
		l, s := wheels.Digits(p, n)
		m, a := wheels.Amount(p, l)
		if len(l) != 3 || worth(p, l) != n || m != n || s != api.Fine || a != api.Fine {
			t.Errorf("Digits(%d): %v, bell %d; Amount: %d, bell %d", n, l, s, m, a)
		}
	}
	for _, n := range []int{-1, 2400, math.MinInt, math.MaxInt} {
		if l, s := wheels.Digits(p, n); len(l) != 0 || s != api.Bound {
			t.Errorf("Digits(%d): %v, bell %d", n, l, s)
		}
	}
	for _, x := range []struct {
		digits []int
		want   int
		s      api.Bell
	}{
		{[]int{11, 19, 0}, 239, api.Fine}, {[]int{0, 0, 1}, 240, api.Fine}, {[]int{0, 0, 0}, 0, api.Fine}, {[]int{11, 19, 9}, 2399, api.Fine},
		{nil, 0, api.Count}, {[]int{1, 1}, 0, api.Count}, {[]int{1, 1, 1, 1}, 0, api.Count}, {[]int{99, 1}, 0, api.Count},
		{[]int{12, 0, 0}, 0, api.Bound}, {[]int{0, 20, 0}, 0, api.Bound}, {[]int{0, 0, 10}, 0, api.Bound}, {[]int{0, -1, 0}, 0, api.Bound}, {[]int{math.MaxInt, 0, math.MinInt}, 0, api.Bound},
	} {
		if n, s := wheels.Amount(p, x.digits); n != x.want || s != x.s {
			t.Errorf("Amount(%v): %d, bell %d", x.digits, n, s)
		}
	}
	widest := api.WheelsBook{Wheels: make([]api.WheelsWheel, api.MaxWheelsWide), Start: make([]int, api.MaxWheelsWide)}
	for w := range widest.Wheels {
		widest.Wheels[w].Base = api.MaxWheelsBase
	}
	if n, s := wheels.Range(widest); n != 3200000 || s != api.Fine {
		t.Errorf("Range of the widest machine: %d, bell %d", n, s)
	}
}

// P1.1: Ring and Slide, and their bells in order.
func TestRingAndSlide(t *testing.T) {
	p := book(t, textP)
	doubles := book(t, "wheels 0\nwheel 2 doubles\nwheel 2 doubles\nwheel 2 tight\nstart 0+0+0\n")
	five := []int{5, 5, 5}
	for i, x := range []struct {
		b                     api.WheelsBook
		digits, keys          []int
		slips, after, carries []int
		s                     api.Bell
	}{
		{p, []int{11, 19, 0}, []int{1, 0, 0}, nil, []int{0, 0, 1}, []int{0, 1}, api.Fine},
		{p, []int{11, 19, 9}, []int{1, 0, 0}, nil, []int{0, 0, 0}, []int{0, 1, 2}, api.Fine},
		{p, []int{11, 19, 9}, []int{11, 19, 9}, nil, []int{10, 19, 9}, []int{0, 1, 2}, api.Fine},
		{p, five, []int{6, 14, 4}, nil, []int{11, 19, 9}, nil, api.Fine},
		{p, five, []int{6, 15, 4}, nil, []int{11, 0, 0}, []int{1, 2}, api.Fine},
		{p, five, []int{6, 14, 5}, nil, []int{11, 19, 0}, []int{2}, api.Fine},
		{p, []int{11, 19, 0}, []int{1, 0, 0}, []int{0}, []int{0, 19, 0}, nil, api.Fine},
		{p, five, []int{1, 20}, nil, nil, nil, api.Count},
		{p, five, []int{12, 0, 0}, nil, nil, nil, api.Bound},
		{p, []int{5, 20, 5}, []int{1}, nil, nil, nil, api.Bound},
		{p, []int{5, -1, 5}, []int{1, 0, 0}, nil, nil, nil, api.Bound},
		{p, []int{5, 5}, []int{12, 0, 0}, nil, nil, nil, api.Count},
		{p, five, []int{0, 0, -1}, []int{9}, nil, nil, api.Bound},
		{p, five, []int{0, 0, 0}, []int{3}, nil, nil, api.Missing},
		{p, five, []int{0, 0, 0}, []int{-1}, nil, nil, api.Missing},
		{p, five, []int{0, 0, 0}, []int{0, 0, 3}, nil, nil, api.Order},
		{p, five, []int{0, 0, 0}, []int{1, 0}, nil, nil, api.Order},
		{p, five, []int{0, 0, 0}, []int{0, 3, 1}, nil, nil, api.Missing},
		{p, five, []int{6, 0, 0}, []int{0}, nil, nil, api.Odds},             // it does not carry
		{p, []int{11, 19, 0}, []int{1, 0, 0}, []int{1}, nil, nil, api.Odds}, // it is tight
		{p, []int{11, 19, 9}, []int{1, 0, 0}, []int{2}, nil, nil, api.Odds}, // it is the highest one
		{doubles, []int{1, 0, 0}, []int{1, 0, 0}, []int{0, 1}, []int{0, 0, 0}, nil, api.Fine},
		{doubles, []int{1, 1, 0}, []int{1, 1, 0}, []int{0}, []int{0, 0, 1}, nil, api.Fine}, // it passes its base twice, and carries once
		{doubles, []int{1, 1, 0}, []int{1, 0, 0}, []int{1}, []int{0, 0, 0}, nil, api.Fine},
		{doubles, []int{1, 0, 0}, []int{1, 0, 0}, []int{1}, nil, nil, api.Odds},
	} {
		after, s := wheels.Slide(x.b, x.digits, x.keys, x.slips)
		if !slices.Equal(after, x.after) || s != x.s {
			t.Errorf("%d: Slide: %v, bell %d", i, after, s)
		}
		if len(x.slips) > 0 {
			continue
		}
		after, carries, s := wheels.Ring(x.b, x.digits, x.keys)
		if !slices.Equal(after, x.after) || !slices.Equal(carries, x.carries) || s != x.s {
			t.Errorf("%d: Ring: %v, %v, bell %d", i, after, carries, s)
		}
	}
}

// P1.1: Ring and Slide do what a machine does that is turned wheel by wheel.
func TestRingAndSlideLikeOracle(t *testing.T) {
	d := dice.Dice(1)
	for range 3000 {
		b, _ := anyBook(&d, false)
		digits, keys := anyDigits(&d, b), anyDigits(&d, b)
		after, carries, _ := ringing(b.Wheels, digits, keys, nil)
		a, c, s := wheels.Ring(b, digits, keys)
		if !slices.Equal(a, after) || !slices.Equal(c, carries) || s != api.Fine {
			t.Errorf("Ring(%v, %v, %v): %v, %v, bell %d", b.Wheels, digits, keys, a, c, s)
		}
		var slips []int
		for w := range b.Wheels {
			if d.Roll(3) == 0 {
				slips = append(slips, w)
			}
		}
		want := api.Fine
		after, _, can := ringing(b.Wheels, digits, keys, slips)
		if !can {
			want = api.Odds
		}
		if a, s := wheels.Slide(b, digits, keys, slips); !slices.Equal(a, after) || s != want {
			t.Errorf("Slide(%v, %v, %v, %v): %v, bell %d", b.Wheels, digits, keys, slips, a, s)
		}
		if n, s := wheels.Sum(b); n != keySum(b) || s != api.Fine {
			t.Errorf("Sum: %d, bell %d", n, s)
		}
		if n, s := wheels.Range(b); n != span(b) || s != api.Fine {
			t.Errorf("Range: %d, bell %d", n, s)
		}
	}
}

// P1.1: the sum is not cut at the range.
func TestSum(t *testing.T) {
	for text, want := range map[string]int{textP: 0, textA: 240, textP + "ring 11+19+9 none\nring 11+19+9 none\n": 4798} {
		if n, s := wheels.Sum(book(t, text)); n != want || s != api.Fine {
			t.Errorf("%q: %d, bell %d", text, n, s)
		}
	}
}
