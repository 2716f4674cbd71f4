package spans

import (
	"fmt"
	"math"
	"slices"
	"testing"

	"nosale/api"
)

func TestWithin(t *testing.T) {
	for _, x := range []struct {
		n, low, high int
		want         bool
	}{{0, 0, 0, true}, {1, 0, 2, true}, {0, 0, 2, true}, {2, 0, 2, true}, {-1, 0, 2, false}, {3, 0, 2, false}, {1, 2, 0, false}, {math.MinInt, 0, 1, false}, {math.MaxInt, 0, 1, false}, {0, math.MinInt, math.MaxInt, true}} {
		if Within(x.n, x.low, x.high) != x.want {
			t.Errorf("Within(%d, %d, %d) is %v", x.n, x.low, x.high, !x.want)
		}
		if Has(api.Span{Low: x.low, High: x.high}, x.n) != x.want {
			t.Errorf("%d..%d has %d: %v", x.low, x.high, x.n, !x.want)
		}
	}
}

func TestIsFrom(t *testing.T) {
	for _, x := range []struct {
		low, high int
		want      bool
	}{{3, 7, true}, {3, 3, true}, {7, 7, true}, {4, 6, true}, {6, 4, false}, {2, 7, false}, {3, 8, false}, {2, 2, false}, {8, 8, false}, {math.MinInt, math.MaxInt, false}, {math.MaxInt, math.MinInt, false}} {
		if IsFrom(api.Span{Low: x.low, High: x.high}, 3, 7) != x.want {
			t.Errorf("%d..%d is a span from 3 to 7: %v", x.low, x.high, !x.want)
		}
	}
}

func TestMany(t *testing.T) {
	for s, want := range map[api.Span]int{{}: 1, {Low: 5, High: 5}: 1, {Low: 0, High: 3}: 4, {Low: -2, High: 2}: 5} {
		if n := Many(s); n != want {
			t.Errorf("%v has %d numbers", s, n)
		}
	}
}

func TestCommon(t *testing.T) {
	for _, x := range []struct {
		a, b, want api.Span
		ok         bool
	}{
		{api.Span{Low: 1, High: 5}, api.Span{Low: 3, High: 9}, api.Span{Low: 3, High: 5}, true},
		{api.Span{Low: 1, High: 5}, api.Span{Low: 5, High: 9}, api.Span{Low: 5, High: 5}, true},
		{api.Span{Low: 1, High: 5}, api.Span{Low: 2, High: 4}, api.Span{Low: 2, High: 4}, true},
		{api.Span{Low: 1, High: 5}, api.Span{Low: 6, High: 9}, api.Span{}, false},
		{api.Span{Low: 1, High: 1}, api.Span{Low: 0, High: 0}, api.Span{}, false},
	} {
		for _, turned := range []bool{false, true} {
			a, b := x.a, x.b
			if turned {
				a, b = b, a
			}
			if s, ok := Common(a, b); s != x.want || ok != x.ok {
				t.Errorf("Common(%v, %v) = %v, %v", a, b, s, ok)
			}
		}
	}
}

func TestTogether(t *testing.T) {
	from1 := func(n int) api.Span { return api.Span{Low: 1, High: n} }
	for _, x := range []struct {
		several []int
		want    api.Span
	}{{nil, api.Span{}}, {[]int{1}, api.Span{Low: 1, High: 1}}, {[]int{5}, api.Span{Low: 1, High: 5}}, {[]int{5, 1, 7}, api.Span{Low: 3, High: 13}}} {
		if got := Together(from1, x.several...); got != x.want {
			t.Errorf("%v together: %v, want %v", x.several, got, x.want)
		}
	}
}

func TestSum(t *testing.T) {
	for _, x := range []struct {
		several []api.Span
		want    api.Span
	}{{nil, One(0)}, {[]api.Span{One(5)}, One(5)}, {[]api.Span{One(5), {Low: 1, High: 2}, One(-2), {Low: -3, High: 9}}, api.Span{Low: 1, High: 14}}} {
		if got := Sum(x.several...); got != x.want {
			t.Errorf("%v: %v, want %v", x.several, got, x.want)
		}
	}
}

func TestJoined(t *testing.T) {
	for _, x := range []struct {
		first  api.Span
		others []api.Span
		want   api.Span
	}{{One(3), nil, api.Span{Low: 3, High: 3}}, {One(3), []api.Span{One(5)}, api.Span{Low: 3, High: 5}}, {One(3), []api.Span{One(2)}, api.Span{Low: 2, High: 3}}, {api.Span{Low: 1, High: 9}, []api.Span{{Low: 4, High: 5}, {Low: 0, High: 2}, {Low: 7, High: 9}}, api.Span{Low: 0, High: 9}}, {One(-7), []api.Span{{Low: -9, High: -8}, {Low: -8, High: 4}}, api.Span{Low: -9, High: 4}}} {
		if got := Joined(x.first, x.others...); got != x.want {
			t.Errorf("%v, %v: %v, want %v", x.first, x.others, got, x.want)
		}
	}
}

func TestFilled(t *testing.T) {
	for _, x := range []struct {
		places []api.Span
		want   string
	}{
		{nil, "[[]]"}, {[]api.Span{One(7)}, "[[7]]"}, {[]api.Span{{Low: 1, High: 2}, One(5), {Low: -1, High: 1}}, "[[1 5 -1] [1 5 0] [1 5 1] [2 5 -1] [2 5 0] [2 5 1]]"}, {[]api.Span{{Low: 1, High: 2}, {Low: 2, High: 1}}, "[]"},
	} {
		var all [][]int
		filled := Filled(len(x.places), func(place int) api.Span { return x.places[place] })
		for list := range filled {
			all = append(all, slices.Clone(list))
		}
		if s := fmt.Sprint(all); s != x.want {
			t.Errorf("%v: %s, want %s", x.places, s, x.want)
		}
		// no more is asked for than is wanted, and each time all begins again
		for many := 1; many <= len(all); many++ {
			seen := 0
			for list := range filled {
				if !slices.Equal(list, all[seen]) {
					t.Errorf("%v: %v, want %v", x.places, list, all[seen])
				}
				if seen++; seen == many {
					break
				}
			}
		}
	}
}

// Bound comes before Odds; what is known already need not be within bounds.
func TestNarrowed(t *testing.T) {
	for _, x := range []struct {
		known, x api.Span
		want     api.Span
		bell     api.Bell
	}{
		{api.Span{Low: 2, High: 5}, api.Span{Low: 0, High: 9}, api.Span{Low: 2, High: 5}, api.Fine}, {api.Span{Low: 2, High: 5}, api.Span{Low: 5, High: 9}, One(5), api.Fine}, {api.Span{Low: 2, High: 5}, One(3), One(3), api.Fine}, {api.Span{Low: 2, High: 20}, api.Span{Low: 4, High: 9}, api.Span{Low: 4, High: 9}, api.Fine},
		{api.Span{Low: 2, High: 5}, api.Span{Low: 6, High: 9}, api.Span{}, api.Odds}, {api.Span{Low: 2, High: 5}, One(1), api.Span{}, api.Odds},
		{api.Span{Low: 2, High: 5}, api.Span{Low: 3, High: 10}, api.Span{}, api.Bound}, {api.Span{Low: 2, High: 5}, api.Span{Low: -1, High: 3}, api.Span{}, api.Bound}, {api.Span{Low: 2, High: 5}, api.Span{Low: 4, High: 3}, api.Span{}, api.Bound}, {api.Span{Low: 2, High: 5}, One(10), api.Span{}, api.Bound}, {api.Span{Low: 2, High: 5}, api.Span{Low: math.MinInt, High: math.MaxInt}, api.Span{}, api.Bound},
	} {
		if s, l := Narrowed(x.known, x.x, 9); s != x.want || l != x.bell {
			t.Errorf("%v, %v: %v, bell %d, want %v, %d", x.known, x.x, s, l, x.want, x.bell)
		}
	}
}
