package lists

import (
	"cmp"
	"slices"
	"testing"
)

func TestCompare(t *testing.T) {
	ordered := [][]int{nil, {0}, {1}, {7}, {0, 1}, {0, 2}, {1, 0}, {1, 1}, {0, 0, 0}}
	for i, a := range ordered {
		for j, b := range ordered {
			if got := Compare(a, b); got != cmp.Compare(i, j) {
				t.Errorf("Compare(%v, %v) = %d", a, b, got)
			}
		}
	}
	if Compare(nil, []int{}) != 0 {
		t.Error("nil and an empty list are not equal")
	}
}

func TestOfSet(t *testing.T) {
	for set, want := range map[int][]int{0: nil, 1: {0}, 2: {1}, 3: {0, 1}, 21: {0, 2, 4}, 1 << 62: {62}} {
		if got := OfSet(set); !slices.Equal(got, want) {
			t.Errorf("OfSet(%d) = %v", set, got)
		}
	}
}

func TestLeast(t *testing.T) {
	byLength := func(a, b string) int { return cmp.Compare(len(a), len(b)) }
	for _, x := range []struct {
		several []string
		want    string
		found   bool
	}{{nil, "", false}, {[]string{"one"}, "one", true}, {[]string{"three", "one", "two"}, "one", true}, {[]string{"two", "one"}, "two", true}} {
		if got, found := Least(byLength, x.several...); got != x.want || found != x.found {
			t.Errorf("Least(%q) = %q, %v", x.several, got, found)
		}
	}
}
