package lists

import (
	"cmp"
	"slices"
	"testing"
)

func TestCompare(t *testing.T) {
	ordered := [][]int{nil, {0}, {1}, {7}, {0, 1}, {0, 2}, {1, 0}, {1, 1}, {0, 0, 0}}
	for i, a := range ordered {
		for j, b := range ordered {
			if got := Compare(a, b); got != cmp.Compare(i, j) {
				t.Errorf("Compare(%v, %v) = %d", a, b, got)
			}
		}
	}
	if Compare(nil, []int{}) != 0 {
		t.Error("nil and an empty list are not equal")
	}
}

func TestSame(t *testing.T) {
	for _, x := range []struct {
		list []int
		all  [][]int
		want bool
	}{{nil, nil, true}, {nil, [][]int{{}}, true}, {[]int{1, 2}, [][]int{{1, 2}, {1, 2}}, true}, {[]int{1, 2}, [][]int{{1, 2}, {2, 1}}, false}, {[]int{1, 2}, [][]int{{1, 2, 3}}, false}, {[]int{1, 2}, [][]int{{1}, {1, 2}}, false}, {nil, [][]int{{0}}, false}} {
		if got := Same(x.list, x.all...); got != x.want {
			t.Errorf("Same(%v, %v) = %v", x.list, x.all, got)
		}
	}
}

func TestOfSet(t *testing.T) {
	for set, want := range map[int][]int{0: nil, 1: {0}, 2: {1}, 3: {0, 1}, 21: {0, 2, 4}, 1 << 62: {62}} {
		if got := OfSet(set); !slices.Equal(got, want) {
			t.Errorf("OfSet(%d) = %v", set, got)
		}
	}
}

func TestLeast(t *testing.T) {
	byLength := func(a, b string) int { return cmp.Compare(len(a), len(b)) }
	for _, x := range []struct {
		several []string
		want    string
		found   bool
	}{{nil, "", false}, {[]string{"one"}, "one", true}, {[]string{"three", "one", "two"}, "one", true}, {[]string{"two", "one"}, "two", true}} {
		if got, found := Least(byLength, x.several...); got != x.want || found != x.found {
			t.Errorf("Least(%q) = %q, %v", x.several, got, found)
		}
	}
}

func TestLeastOf(t *testing.T) {
	for _, x := range []struct {
		sets  []int
		want  []int
		found bool
	}{{nil, nil, false}, {[]int{0}, nil, true}, {[]int{0b1000, 0}, nil, true}, {[]int{0b0111, 0b1000}, []int{3}, true}, {[]int{0b1010, 0b1001, 0b0110}, []int{0, 3}, true}} {
		if got, found := LeastOf(x.sets...); !slices.Equal(got, x.want) || found != x.found {
			t.Errorf("%b: %v, %v, want %v", x.sets, got, found, x.want)
		}
	}
}

// Those that are looked at side by side are told in their order, each once.
func TestThose(t *testing.T) {
	for n, want := range [][]int{nil, nil, nil, nil, {3}, {3}, {3}, {3}, {3, 7}} {
		if got := Those(n, func(i int) bool { return i%4 == 3 }); !slices.Equal(got, want) {
			t.Errorf("%d: %v, want %v", n, got, want)
		}
	}
	for range 50 {
		if got := Those(200, func(i int) bool { return true }); len(got) != 200 || !slices.IsSorted(got) || got[0] != 0 || got[199] != 199 {
			t.Errorf("%v", got)
		}
	}
}

func TestLeastSet(t *testing.T) {
	for i, x := range []struct {
		n     int
		is    func(set int) bool
		want  []int
		found bool
	}{
		{0, func(set int) bool { return true }, nil, true},
		{0, func(set int) bool { return set > 0 }, nil, false},
		{4, func(set int) bool { return false }, nil, false},
		{4, func(set int) bool { return true }, nil, true},
		{4, func(set int) bool { return set > 0 }, []int{0}, true},
		{4, func(set int) bool { return set > 1 }, []int{1}, true},
		{4, func(set int) bool { return set == 0b0111 || set == 0b1000 }, []int{3}, true},
		{4, func(set int) bool { return set == 0b0110 || set == 0b1001 }, []int{0, 3}, true},
		{4, func(set int) bool { return set == 0b1111 }, []int{0, 1, 2, 3}, true},
		{4, func(set int) bool { return set > 0b1111 }, nil, false},
	} {
		if got, found := LeastSet(x.n, x.is); !slices.Equal(got, x.want) || found != x.found {
			t.Errorf("%d: %v, %v, want %v", i, got, found, x.want)
		}
	}
}
