package change_test

import (
	"slices"
	"testing"

	"nosale/api"
	"nosale/change"
	"nosale/dice"
	"nosale/oracle"
	"nosale/promises"
)

// noMore tells whether o, in which more is known than in b, makes nothing possible that was not, and takes back nothing that was sure.
func noMore(t *testing.T, b, o api.ChangeBook) {
	t.Helper()
	wrong := func(name string, values ...any) {
		t.Helper()
		t.Errorf("%+v, then %+v: %s %v", b, o, name, values)
	}
	before, _ := change.Histories(b)
	if n, l := change.Histories(o); n < 1 || n > before || l != api.Fine {
		wrong("Histories", before, n, l)
	}
	for _, p := range plays(b) {
		was, _ := change.IsHistory(b, p.first, p.order)
		if is, _ := change.IsHistory(o, p.first, p.order); is && !was {
			wrong("IsHistory", p)
		}
	}
	for k := range b.Kinds {
		all, _ := change.Had(b, k)
		if few, _ := change.Had(o, k); len(few) == 0 || !oracle.Within(few, all) {
			wrong("Had", k, all, few)
		}
		all, _ = change.Left(b, k)
		if few, _ := change.Left(o, k); len(few) == 0 || !oracle.Within(few, all) {
			wrong("Left", k, all, few)
		}
	}
	for i := range b.Sales {
		was, _ := change.Goes(b, i)
		if is, _ := change.Goes(o, i); was != api.Open && is != was {
			wrong("Goes", i, was, is)
		}
	}
	was, _ := change.Runs(b)
	if is, _ := change.Runs(o); was != api.Open && is != was {
		wrong("Runs", was, is)
	}
	// what was enough is still enough
	more, enough, _ := change.Float(b)
	if fewer, is, _ := change.Float(o); enough && (!is || sum(fewer) > sum(more)) {
		wrong("Float", more, fewer, is)
	}
}

// P4.11, P0.6: what is seen, known or counted never adds a history, and takes back nothing.
func TestKnowingMore(t *testing.T) {
	d := dice.Dice(14)
	for range 150 {
		b, real := anyBook(&d, false)
		for i, s := range b.Sales {
			if s.Seen != api.Open {
				continue
			}
			o, l := change.See(b, i, real.went(i))
			if l != api.Fine {
				t.Fatalf("%+v: the sale %d cannot be seen, bell %d", b, i, l)
			}
			noMore(t, b, o)
		}
		if many := len(real.order); many > 1 && len(b.Firsts) < api.MaxChangeFirsts {
			at := 1 + d.Roll(many-1)
			f := first(real.order[d.Roll(at)], real.order[at])
			o, l := change.Know(b, f)
			if l != api.Fine {
				t.Fatalf("%+v: %v cannot be known, bell %d", b, f, l)
			}
			noMore(t, b, o)
		}
		if len(b.Counts) < api.MaxChangeCounts {
			k := d.Roll(len(b.Kinds))
			c := api.ChangeCount{Kind: k, Many: d.Around(real.last[k], 3, 0, api.MaxChangeCount)}
			o, l := change.Note(b, c)
			if l != api.Fine {
				t.Fatalf("%+v: %v cannot be noted, bell %d", b, c, l)
			}
			noMore(t, b, o)
		}
	}
}

// P4.11: counts that clash do so alone, and no fewer do.
func TestClashAlone(t *testing.T) {
	d := dice.Dice(15)
	clashes := map[int]int{}
	for range 600 {
		b, _ := anyBook(&d, true)
		list, l := change.Clash(b)
		if l == api.Short {
			if n, _ := change.Histories(alone(b, nil)); n > 0 || len(list) > 0 {
				t.Errorf("%+v: Short, but without a count there are %d histories", b, n)
			}
			continue
		}
		n, _ := change.Histories(b)
		if (len(list) > 0) != (n == 0) || l != api.Fine {
			t.Errorf("%+v: %d histories, but %v clash, bell %d", b, n, list, l)
		}
		clashes[len(list)]++
		promises.Clash(t, show(b), len(b.Counts), list, func(some []int) int {
			n, _ := change.Histories(alone(b, some))
			return n
		})
	}
	if clashes[1] < 20 || clashes[2] < 5 {
		t.Errorf("there were too few clashes: %v", clashes)
	}
}

// P4.11: once it is counted what Ask asks, there are no more histories than it says.
func TestAsked(t *testing.T) {
	d := dice.Dice(16)
	asked := 0
	for i := range 300 {
		b, _ := anyBook(&d, i%2 == 0)
		if len(b.Counts) == api.MaxChangeCounts {
			b.Counts = b.Counts[:3]
		}
		all, _ := change.Histories(b)
		kind, left, l := change.Ask(b)
		if all == 0 {
			continue
		}
		if l != api.Fine {
			t.Errorf("%+v: bell %d", b, l)
		}
		promises.Asked(t, show(b), all, len(b.Kinds), kind, left, func(k int) int {
			most := 0
			list, _ := change.Left(b, k)
			for _, n := range list {
				o, l := change.Note(b, count(k, n, n))
				if l != api.Fine {
					t.Errorf("%+v: %d of %d cannot be counted, bell %d", b, n, k, l)
				}
				many, _ := change.Histories(o)
				most = max(most, many)
			}
			return most
		})
		if kind >= 0 {
			asked++
		}
	}
	if asked < 50 {
		t.Errorf("only %d books were asked", asked)
	}
}

// times returns a book whose values and prices are so many times as great.
func times(b api.ChangeBook, n int) api.ChangeBook {
	o := clone(b)
	for i := range o.Kinds {
		o.Kinds[i] *= n
	}
	for i := range o.Sales {
		o.Sales[i].Price *= n
	}
	return o
}

// P4.12: values that are all so many times as great change nothing but amounts.
func TestTimes(t *testing.T) {
	d := dice.Dice(17)
	scaled := 0
	for i := range 400 {
		b, _ := anyBook(&d, i%2 == 0)
		n := 2 + d.Roll(4)
		o := times(b, n)
		if change.CheckBook(o) != api.Fine {
			continue
		}
		scaled++
		if one, other := told(b), told(o); one != other {
			t.Errorf("%+v: %s, %d times as great: %s", b, one, n, other)
		}
		coins := anyCoins(&d, len(b.Kinds), 6)
		amount, _ := change.Amount(b, coins)
		if more, l := change.Amount(o, coins); more != n*amount || l != api.Fine {
			t.Errorf("%v of %v: %d, %d times as great: %d", coins, b.Kinds, amount, n, more)
		}
		most := d.Roll(api.MaxChangeAmount/n + 1)
		v, found, l := change.Give(b, coins, most)
		w, is, l2 := change.Give(o, coins, n*most)
		if !slices.Equal(v, w) || found != is || l+l2 != api.Fine {
			t.Errorf("%d out of %v of %v: %v, %d times as great: %v", most, coins, b.Kinds, v, n, w)
		}
		few, _ := change.Cannot(b, coins, most)
		all, l := change.Cannot(o, coins, n*most)
		for a := 1; a <= most; a++ {
			if slices.Contains(few, a) != slices.Contains(all, n*a) || l != api.Fine {
				t.Errorf("%v of %v: %v, %d times as great: %v", coins, b.Kinds, few, n, all)
			}
		}
	}
	if scaled < 200 {
		t.Errorf("only %d books were scaled", scaled)
	}
}

// told writes all that is told of a book, but for amounts.
func told(b api.ChangeBook) string {
	var out []any
	put := func(values ...any) { out = append(out, values...) }
	for _, p := range plays(b) {
		refused, after, l := change.Play(b, p.first, p.order)
		is, l2 := change.IsHistory(b, p.first, p.order)
		put(refused, after, is, l, l2)
	}
	for k := range b.Kinds {
		had, l := change.Had(b, k)
		left, l2 := change.Left(b, k)
		put(had, left, l, l2)
	}
	for i := range b.Sales {
		sure, l := change.Goes(b, i)
		put(sure, l)
	}
	many, _ := change.Histories(b)
	runs, l := change.Runs(b)
	order, refused, l2 := change.Best(b)
	more, found, l3 := change.Float(b)
	clash, l4 := change.Clash(b)
	kind, left, l5 := change.Ask(b)
	put(many, runs, order, refused, more, found, clash, kind, left, l, l2, l3, l4, l5)
	return show(out...)
}
