package dice

import (
	"slices"
	"testing"

	"nosale/api"
)

func TestRoll(t *testing.T) {
	one, other, seen := Dice(1), Dice(1), map[int]int{}
	for range 600 {
		n := one.Roll(6)
		if n != other.Roll(6) {
			t.Fatal("the numbers are not the same each time")
		}
		seen[n]++
	}
	for n := range 6 {
		if seen[n] < 60 {
			t.Errorf("%d came %d times of 600", n, seen[n])
		}
	}
	if len(seen) != 6 || one.Roll(1) != 0 {
		t.Errorf("other numbers came: %v", seen)
	}
}

func TestShuffled(t *testing.T) {
	d, first := Dice(2), map[int]bool{}
	for range 100 {
		list := d.Shuffled(4)
		first[list[0]] = true
		slices.Sort(list)
		if !slices.Equal(list, []int{0, 1, 2, 3}) {
			t.Fatal(list)
		}
	}
	if len(first) != 4 || len(d.Shuffled(0)) != 0 {
		t.Errorf("first came %v", first)
	}
}

func TestAround(t *testing.T) {
	d, seen := Dice(3), map[api.Span]int{}
	for range 200 {
		s := d.Around(5, 3, 4, 6)
		if s.Low < 4 || s.Low > 5 || s.High < 5 || s.High > 6 {
			t.Fatal(s)
		}
		if s := d.Around(50, 4, 0, 99); s.Low > 50 || s.High < 50 || s.High-s.Low > 3 {
			t.Fatal(s)
		}
		seen[s]++
	}
	if len(seen) != 4 || d.Around(7, 1, 0, 9) != (api.Span{Low: 7, High: 7}) {
		t.Errorf("%v", seen)
	}
}
