package oracle

import (
	"fmt"
	"testing"

	"nosale/api"
)

// is compares what is told with what is expected.
func is(t *testing.T, want string, got ...any) {
	t.Helper()
	if s := fmt.Sprintf("%v", got); s != want {
		t.Errorf("%s, want %s", s, want)
	}
}

func TestLists(t *testing.T) {
	is(t, "[[] [2] [-1 0 1]]", UpTo(3, 2), UpTo(2, 2), UpTo(-1, 1))
	is(t, "[[] [0 1 2]]", Indexes(0), Indexes(3))
	is(t, "[[[]] [[a c] [a d] [b c] [b d]] []]", Combined[int](nil), Combined([][]string{{"a", "b"}, {"c", "d"}}), Combined([][]int{{1}, {}}))
	is(t, "[[[]] [[] [b] [a]] [[] [b] [a] [a b]]]", Chosen([]string(nil), 2), Chosen([]string{"a", "b"}, 1), Chosen([]string{"a", "b"}, 2))
	is(t, "[[[]] [[] [0] [1] [2] [0 1] [0 2] [1 2] [0 1 2]]]", Subsets(0), Subsets(3))
	is(t, "[[] [c a]]", Picked([]string{"a"}, nil), Picked([]string{"a", "b", "c"}, []int{2, 0}))
}

func TestToldOfAll(t *testing.T) {
	all := []int{14, 3, 24, 3}
	last := func(n int) int { return n % 10 }
	isEven := func(n int) bool { return n%2 == 0 }
	is(t, "[[14 24] []]", Kept(all, isEven), Kept(all, func(n int) bool { return n > 24 }))
	is(t, "[[3 4] []]", Numbers(all, last), Numbers(nil, last))
	is(t, "[{3 24}]", Span(all, func(n int) int { return n }))
	is(t, fmt.Sprintf("%v", []any{api.Open, api.Yes, api.No}), Sure(all, isEven), Sure(all[:1], isEven), Sure(all[1:2], isEven))
	is(t, "[2 1 0]", Left(all, last), Left(all[:2], last), Left(nil, last))
}

func TestAsk(t *testing.T) {
	digit := func(text string, i int) int { return int(text[i]) }
	for _, x := range []struct {
		all  []string
		want string
	}{{nil, "[-1 0]"}, {[]string{"ab"}, "[-1 1]"}, {[]string{"ab", "ab"}, "[-1 2]"}, {[]string{"ab", "ac", "ad", "bd"}, "[1 2]"}, {[]string{"ab", "bc"}, "[0 1]"}} {
		thing, left := Ask(x.all, 2, digit)
		is(t, x.want, thing, left)
	}
}

func TestSpans(t *testing.T) {
	s := api.Span{Low: 2, High: 4}
	is(t, "[false true true true false]", Has(s, 1), Has(s, 2), Has(s, 3), Has(s, 4), Has(s, 5))
	is(t, "[true true false false]", IsNarrow(s, s), IsNarrow(api.Span{Low: 3, High: 3}, s), IsNarrow(api.Span{Low: 1, High: 4}, s), IsNarrow(api.Span{Low: 2, High: 5}, s))
}

func TestWithin(t *testing.T) {
	is(t, "[true true true false false]", Within(nil, []int{1}), Within([]int{2, 1, 2}, []int{1, 2, 3}), Within([]int(nil), nil), Within([]int{1}, nil), Within([]string{"a", "d"}, []string{"a", "b"}))
}

func TestIsSo(t *testing.T) {
	is(t, "[true true true false false true]", IsSo(api.Open, true), IsSo(api.Open, false), IsSo(api.Yes, true), IsSo(api.Yes, false), IsSo(api.No, true), IsSo(api.No, false))
}
