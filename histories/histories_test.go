package histories

import (
	"iter"
	"slices"
	"testing"

	"nosale/api"
)

func TestAny(t *testing.T) {
	for many := range 3 {
		all := slices.Values(make([]string, many))
		if Any(all) != (many > 0) || Count(all) != many {
			t.Errorf("%d histories: %v, %d", many, Any(all), Count(all))
		}
	}
	// one is enough
	Any(func(yield func(int) bool) {
		if yield(1) {
			t.Error("more than one history is looked at")
		}
	})
}

func TestIfAny(t *testing.T) {
	for _, x := range []struct {
		many int
		l    api.Bell
		want string
		bell api.Bell
	}{{2, api.Fine, "book", api.Fine}, {1, api.Fine, "book", api.Fine}, {0, api.Fine, "", api.Odds}, {2, api.Count, "", api.Count}, {0, api.Label, "", api.Label}} {
		asked := false
		b, l := IfAny("book", x.l, func() iter.Seq[int] {
			asked = true
			return slices.Values(make([]int, x.many))
		})
		if b != x.want || l != x.bell || asked != (x.l == api.Fine) {
			t.Errorf("%d histories, bell %d: %q, bell %d, histories looked at: %v", x.many, x.l, b, l, asked)
		}
	}
}

func TestNumbers(t *testing.T) {
	for _, x := range []struct {
		texts []string
		want  []int
		bell  api.Bell
	}{
		{nil, nil, api.Odds}, {[]string{""}, []int{0}, api.Fine}, {[]string{"abc", "a", "xyz", "ab", "b"}, []int{1, 2, 3}, api.Fine},
	} {
		list, l := Numbers(slices.Values(x.texts), func(s string) int { return len(s) })
		if !slices.Equal(list, x.want) || l != x.bell {
			t.Errorf("%q: %v, bell %d", x.texts, list, l)
		}
	}
}

func TestSure(t *testing.T) {
	for _, x := range []struct {
		all  []bool
		want api.Sure
		bell api.Bell
	}{
		{nil, 0, api.Odds}, {[]bool{true}, api.Yes, api.Fine}, {[]bool{false}, api.No, api.Fine}, {[]bool{true, true, true}, api.Yes, api.Fine}, {[]bool{false, false}, api.No, api.Fine}, {[]bool{true, false}, api.Open, api.Fine}, {[]bool{false, false, true}, api.Open, api.Fine},
	} {
		if sure, l := Sure(slices.Values(x.all), func(is bool) bool { return is }); sure != x.want || l != x.bell {
			t.Errorf("%v: %d, bell %d", x.all, sure, l)
		}
	}
}

func TestSpan(t *testing.T) {
	for _, x := range []struct {
		all  []int
		want api.Span
		bell api.Bell
	}{
		{nil, api.Span{}, api.Odds}, {[]int{0}, api.Span{}, api.Fine}, {[]int{7}, api.Span{Low: 7, High: 7}, api.Fine}, {[]int{5, 9, 3, 4}, api.Span{Low: 3, High: 9}, api.Fine}, {[]int{-2, -5}, api.Span{Low: -5, High: -2}, api.Fine},
	} {
		if s, l := Span(slices.Values(x.all), func(n int) int { return n }); s != x.want || l != x.bell {
			t.Errorf("%v: %v, bell %d", x.all, s, l)
		}
	}
}

func TestAsk(t *testing.T) {
	for _, x := range []struct {
		all         [][]int
		thing, left int
	}{
		{[][]int{{1, 1}}, -1, 1},
		{[][]int{{1, 1}, {1, 1}}, -1, 2},
		{[][]int{{1, 1}, {1, 2}}, 1, 1},
		{[][]int{{1, 1}, {2, 2}}, 0, 1},
		{[][]int{{1, 1}, {1, 2}, {1, 3}, {2, 3}}, 1, 2},
		{[][]int{{1, 1}, {1, 2}, {2, 3}, {2, 3}}, 0, 2},
		{nil, -1, 0},
	} {
		if thing, left := Ask(x.all, 2, func(h []int, i int) int { return h[i] }); thing != x.thing || left != x.left {
			t.Errorf("%v: %d, %d, want %d, %d", x.all, thing, left, x.thing, x.left)
		}
	}
	if thing, left := Ask([]int{1, 2}, 0, func(h, i int) int { return h }); thing != -1 || left != 2 {
		t.Errorf("nothing to ask: %d, %d", thing, left)
	}
}

func TestBest(t *testing.T) {
	for _, x := range []struct {
		all         int
		most        []int
		thing, left int
	}{{5, nil, -1, 5}, {0, []int{0}, -1, 0}, {5, []int{5, 5}, -1, 5}, {5, []int{5, 4}, 1, 4}, {5, []int{4, 2, 3, 2}, 1, 2}, {5, []int{1, 1}, 0, 1}} {
		if thing, left := Best(x.all, len(x.most), func(i int) int { return x.most[i] }); thing != x.thing || left != x.left {
			t.Errorf("%d, %v: %d, %d, want %d, %d", x.all, x.most, thing, left, x.thing, x.left)
		}
	}
}
