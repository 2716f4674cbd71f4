package histories

import (
	"slices"
	"testing"

	"nosale/api"
)

func TestAny(t *testing.T) {
	for many := range 3 {
		all := slices.Values(make([]string, many))
		if Any(all) != (many > 0) || Count(all) != many {
			t.Errorf("%d histories: %v, %d", many, Any(all), Count(all))
		}
	}
	// one is enough
	Any(func(yield func(int) bool) {
		if yield(1) {
			t.Error("more than one history is looked at")
		}
	})
}

func TestNumbers(t *testing.T) {
	for _, x := range []struct {
		texts []string
		want  []int
		bell  api.Bell
	}{
		{nil, nil, api.Odds}, {[]string{""}, []int{0}, api.Fine}, {[]string{"abc", "a", "xyz", "ab", "b"}, []int{1, 2, 3}, api.Fine},
	} {
		list, l := Numbers(slices.Values(x.texts), func(s string) int { return len(s) })
		if !slices.Equal(list, x.want) || l != x.bell {
			t.Errorf("%q: %v, bell %d", x.texts, list, l)
		}
	}
}

func TestSure(t *testing.T) {
	for _, x := range []struct {
		all  []bool
		want api.Sure
		bell api.Bell
	}{
		{nil, 0, api.Odds}, {[]bool{true}, api.Yes, api.Fine}, {[]bool{false}, api.No, api.Fine}, {[]bool{true, true, true}, api.Yes, api.Fine}, {[]bool{false, false}, api.No, api.Fine}, {[]bool{true, false}, api.Open, api.Fine}, {[]bool{false, false, true}, api.Open, api.Fine},
	} {
		if sure, l := Sure(slices.Values(x.all), func(is bool) bool { return is }); sure != x.want || l != x.bell {
			t.Errorf("%v: %d, bell %d", x.all, sure, l)
		}
	}
}
