package tour_test

import (
	"math"
	"slices"
	"strings"
	"testing"

	"nosale/api"
	"nosale/dice"
	"nosale/oracle"
	"nosale/promises"
	"nosale/tour"
)

// P9.3: Clash returns the fewest notes that alone have no history, none if there is one.
func TestClash(t *testing.T) {
	const two = "tour 0 0\nplace a\nplace b\nplace c\nway 0 1 2..3\nway 1 2 4..5\n"
	for _, x := range []struct {
		text string
		want []int
	}{
		{textT, nil}, {textBare, nil}, {textOdd, []int{0}}, {textTwo, []int{0, 1}}, {textLine, nil}, {textAll, nil}, {textT + "note none 1\n", []int{0}}, {textT + "note none 0\n", nil}, {textT + "note none 0\nnote 1 3\n", []int{1}},
		// the fewest come before the first ones, of as many the least list
		{two + "note 0 2\nnote 0+0 6\nnote 1 6\n", []int{2}}, {two + "note 0+1 8..9\nnote 0 2\nnote 0+0 6\nnote 1 4\n", []int{0, 1}}, {two + "note 0+1 6..7\nnote 0 3\nnote 1 4\nnote 1 5\n", []int{2, 3}}, {two + "note 1 5\nnote 0 3\nnote 1 4\nnote 0 2\n", []int{0, 2}}, {two + "note 0 2\nnote 1 4\nnote 0 3\nnote 1 5\n", []int{0, 2}}, {two + "note 0+1 7\nnote 0+1 7\nnote 0 2..3\nnote 0+0+1 8\n", []int{0, 3}},
		// no two of them contradict each other
		{two + "note 0+1 7\nnote 0 2\nnote 1 4\n", []int{0, 1, 2}}, {two + "note 1 4..5\nnote 0+1 6..7\nnote 0 3\nnote 1 5\n", []int{1, 2, 3}}, {"tour 0 0\nplace a\nplace b\nplace c\nplace d\nway 0 1 0..1\nway 0 2 0..1\nway 0 3 0..1\nnote 0+1 1..2\nnote 0+2 1..2\nnote 1+2 1..2\nnote 0+1+2 1\n", []int{0, 1, 2, 3}},
	} {
		if list, l := tour.Clash(parse(t, x.text)); !slices.Equal(list, x.want) || l != api.Fine {
			t.Errorf("%q: Clash: %v, bell %d, want %v", x.text, list, l, x.want)
		}
	}
}

// P9.3: Ask returns the way to be measured, and how many histories are left at most; -1, and all of them, if no way leaves fewer.
func TestAsk(t *testing.T) {
	const three = "tour 0 0\nplace a\nplace b\nplace c\nway 0 1 1\nway 0 2 2..3\nway 1 2 4..5\n"
	for _, x := range []struct {
		text      string
		way, left int
		l         api.Bell
	}{
		{textT, 0, 2, api.Fine}, {with("2..3", "2"), -1, 2, api.Fine}, {textBare, -1, 1, api.Fine}, {textOdd, 0, 0, api.Odds}, {textTwo, 0, 0, api.Odds}, {textLine, 0, 4, api.Fine}, {textTie, 0, 8, api.Fine}, {textT + "note 0 2\n", -1, 2, api.Fine},
		// of several the first one
		{three, 1, 2, api.Fine}, {three + "note 1+2 7\n", 1, 1, api.Fine}, {three + "note 1+2 7..8\n", 1, 2, api.Fine}, {three + "note 1+1+2 8..10\n", 1, 2, api.Fine}, {three + "note 2 5\n", 1, 1, api.Fine}, {three + "note 1 2\n", 2, 1, api.Fine}, {"tour 0 0\nplace a\nplace b\nplace c\nplace d\nway 0 1 0..1\nway 0 2 0..1\nway 0 3 0..1\nnote 2+2+1+0 1..3\nnote 2+1 0..1\n", 0, 3, api.Fine},
		// a later one leaves fewer
		{"tour 0 0\nplace a\nplace b\nplace c\nplace d\nway 0 1 0..1\nway 0 2 0..1\nway 0 3 0..1\nnote 0+0+1+2 2..4\n", 1, 3, api.Fine},
		// works count, too
		{textT + "job 1 0..1 9 0\n", 0, 4, api.Fine},
	} {
		if way, left, l := tour.Ask(parse(t, x.text)); way != x.way || left != x.left || l != x.l {
			t.Errorf("%q: Ask: %d, %d, bell %d, want %d, %d, %d", x.text, way, left, l, x.way, x.left, x.l)
		}
	}
}

// newsCase is a book of which more is known, and its text then, or the bell.
type newsCase struct {
	text, want string
	l          api.Bell
}

// is compares the book that a function returns with what is expected; the one that is handed in stays as it was.
func (x newsCase) is(t *testing.T, tell func(b api.TourBook) (api.TourBook, api.Bell), asked ...any) {
	t.Helper()
	old := parse(t, x.text)
	b, l := tell(old)
	layer().News(t, promises.Case{Text: x.text, Want: x.want, Bell: x.l}, old, b, l, asked...)
}

// P9.3: Note returns the book with one more note, at the end, or the bell that it has.
func TestNote(t *testing.T) {
	full := textT + strings.Repeat("note none 0\n", 4)
	for _, x := range []struct {
		newsCase
		n api.TourNote
	}{
		{newsCase{textT, textT + "note 0+1 6\n", api.Fine}, note(6, 6, 0, 1)}, {newsCase{textT, textT + "note 2+0+0 9..10\n", api.Fine}, note(9, 10, 2, 0, 0)}, {newsCase{textT, textT + "note none 0\n", api.Fine}, note(0, 0)}, {newsCase{textT, textT + "note none 0..200\n", api.Fine}, note(0, 200)}, {newsCase{textT, textT + "note 0+0+0+0+0 10\n", api.Fine}, note(10, 10, 0, 0, 0, 0, 0)}, {newsCase{textBare, textBare + "note none 0\n", api.Fine}, note(0, 0)}, {newsCase{full[:len(full)-12], full, api.Fine}, note(0, 0)},
		{newsCase{textT, "", api.Odds}, note(1, 200)}, {newsCase{textT, "", api.Odds}, note(5, 5, 0, 0)}, {newsCase{textT, "", api.Odds}, note(0, 1, 0)}, {newsCase{textT, "", api.Odds}, note(4, 200, 0)}, {newsCase{textOdd, "", api.Odds}, note(0, 200, 0)}, {newsCase{textT + "note 0 2\n", "", api.Odds}, note(3, 3, 0)},
		{newsCase{textT, "", api.Count}, note(0, 200, 0, 0, 0, 0, 0, 0)}, {newsCase{textT, "", api.Count}, note(9, 8, 9, 9, 9, 9, 9, 9)}, {newsCase{textT, "", api.Missing}, note(0, 200, 3)}, {newsCase{textT, "", api.Missing}, note(9, 8, 0, -1)}, {newsCase{textOdd, "", api.Missing}, note(0, 200, math.MaxInt)}, {newsCase{textBare, "", api.Missing}, note(0, 0, 0)}, {newsCase{textT, "", api.Bound}, note(2, 201, 0)}, {newsCase{textT, "", api.Bound}, note(-1, 9, 0)}, {newsCase{textT, "", api.Bound}, note(9, 8)}, {newsCase{textOdd, "", api.Bound}, note(math.MinInt, math.MaxInt, 0)},
		{newsCase{full, "", api.Count}, note(0, 0)}, {newsCase{full, "", api.Count}, note(9, 8, 9)},
	} {
		x.is(t, func(b api.TourBook) (api.TourBook, api.Bell) { return tour.Note(b, x.n) }, x.n)
	}
}

// P9.3: Time returns the book in which the time of a way is known better.
func TestTime(t *testing.T) {
	for _, x := range []struct {
		newsCase
		way int
		x   api.Span
	}{
		{newsCase{textT, with("2..3", "2"), api.Fine}, 0, to(2, 2)}, {newsCase{textT, with("2..3", "2"), api.Fine}, 0, to(0, 2)}, {newsCase{textT, with("2..3", "3"), api.Fine}, 0, to(3, 30)}, {newsCase{textT, textT, api.Fine}, 0, to(0, 30)}, {newsCase{textT, textT, api.Fine}, 0, to(2, 3)}, {newsCase{textT, textT, api.Fine}, 2, to(5, 9)}, {newsCase{textTie, strings.Replace(textTie, "4..5", "5", 1), api.Fine}, 2, to(5, 5)}, {newsCase{textT + "note 0 2\n", with("2..3", "2") + "note 0 2\n", api.Fine}, 0, to(2, 2)},
		{newsCase{textT, "", api.Odds}, 0, to(4, 30)}, {newsCase{textT, "", api.Odds}, 0, to(0, 1)}, {newsCase{textT, "", api.Odds}, 1, to(5, 6)}, {newsCase{textT + "note 0 2\n", "", api.Odds}, 0, to(3, 3)}, {newsCase{textOdd, "", api.Odds}, 0, to(0, 30)}, {newsCase{textOdd, "", api.Odds}, 1, to(5, 6)},
		{newsCase{textT, "", api.Missing}, 3, to(2, 2)}, {newsCase{textT, "", api.Missing}, -1, to(2, 1)}, {newsCase{textT, "", api.Missing}, math.MaxInt, to(0, 31)}, {newsCase{textBare, "", api.Missing}, 0, to(0, 0)}, {newsCase{textOdd, "", api.Missing}, 3, to(0, 0)},
		{newsCase{textT, "", api.Bound}, 0, to(3, 2)}, {newsCase{textT, "", api.Bound}, 0, to(0, 31)}, {newsCase{textT, "", api.Bound}, 0, to(-1, 5)}, {newsCase{textT, "", api.Bound}, 1, to(31, 31)}, {newsCase{textT, "", api.Bound}, 0, to(math.MinInt, math.MaxInt)}, {newsCase{textOdd, "", api.Bound}, 0, to(5, 4)},
	} {
		x.is(t, func(b api.TourBook) (api.TourBook, api.Bell) { return tour.Time(b, x.way, x.x) }, x.way, x.x)
	}
}

// P9.3: Call returns the book with one more job, at the end, or the bell that it has; it may have no history.
func TestCall(t *testing.T) {
	called := func(line string) string { return strings.Replace(textOdd, "note", line+"note", 1) }
	const full = textT + "job 0 0 0 0\n"
	for _, x := range []struct {
		newsCase
		j api.TourJob
	}{
		{newsCase{textT, textT + "job 1 0..1 9 5\n", api.Fine}, job(1, 0, 1, 9, 5)}, {newsCase{textT, textT + "job 0 29..30 200 0\n", api.Fine}, job(0, 29, 30, 200, 0)}, {newsCase{textBare, textBare + "job 0 0 0 none\n", api.Fine}, job(0, 0, 0, 0)}, {newsCase{textOdd, called("job 1 0 9 5\n"), api.Fine}, job(1, 0, 0, 9, 5)}, {newsCase{textLine, strings.Replace(textLine, "note", "job 3 1 7 0+5\nnote", 1), api.Fine}, job(3, 1, 1, 7, 0, 5)},
		{newsCase{textT, "", api.Missing}, job(3, 2, 1, 900)}, {newsCase{textT, "", api.Missing}, job(-1, 0, 0, 0, 0)}, {newsCase{textOdd, "", api.Missing}, job(math.MaxInt, 0, 0, 0, 0)}, {newsCase{textT, "", api.Bound}, job(1, 2, 1, 9)}, {newsCase{textT, "", api.Bound}, job(1, 0, 2, 9, 0)}, {newsCase{textT, "", api.Bound}, job(1, 30, 31, 9, 0)}, {newsCase{textT, "", api.Bound}, job(1, 0, 0, 201)}, {newsCase{textT, "", api.Bound}, job(1, 0, 0, -1, 0)}, {newsCase{textT, "", api.Count}, job(1, 0, 0, 9)}, {newsCase{textT, "", api.Count}, job(1, 0, 0, 9, 6, 6)}, {newsCase{textT, "", api.Bound}, job(1, 0, 0, 9, 6)}, {newsCase{textOdd, "", api.Bound}, job(1, 0, 0, 9, -1)}, {newsCase{textBare, "", api.Count}, job(0, 0, 0, 0, 0)},
		{newsCase{full, "", api.Count}, job(0, 0, 0, 0, 0)}, {newsCase{full, "", api.Count}, job(9, 2, 1, 900)},
	} {
		x.is(t, func(b api.TourBook) (api.TourBook, api.Bell) { return tour.Call(b, x.j) }, x.j)
	}
}

// P9.3: what is told of any book is what all that can be so tells, and the books that are returned say just what is new.
func TestNewsLikeAllThatCanBe(t *testing.T) {
	d := dice.Dice(3)
	known, odds := map[string]int{}, map[string]int{}
	for i := range 800 {
		b, real := anyBook(&d, i%2 == 0)
		is := func(name string, want, got api.TourBook, l api.Bell) {
			t.Helper()
			bell := api.Fine
			if name != "Call" && len(pasts(want)) == 0 {
				bell, want = api.Odds, api.TourBook{}
				odds[name]++
			}
			if show(got) != show(want) || l != bell {
				t.Errorf("%+v: %s: %+v, bell %d, want %+v, %d", b, name, got, l, want, bell)
			}
			known[name]++
		}
		if list, l := tour.Clash(b); !slices.Equal(list, clashOf(b)) || l != api.Fine {
			t.Errorf("%+v: Clash: %v, bell %d, want %v", b, list, l, clashOf(b))
		}
		if all := pasts(b); len(all) > 0 {
			way, left, l := tour.Ask(b)
			if way2, left2 := askOf(b, all); way != way2 || left != left2 || l != api.Fine {
				t.Errorf("%+v: Ask: %d, %d, bell %d, want %d, %d", b, way, left, l, way2, left2)
			}
		}
		for i, w := range b.Ways {
			o, n := clone(b), w.Time.Low+d.Roll(w.Time.High-w.Time.Low+1)
			o.Ways[i].Time = to(n, n)
			got, l := tour.Time(b, i, to(n, n))
			is("Time", o, got, l)
		}
		if len(b.Notes) < api.MaxTourNotes {
			o, n := clone(b), anyNote(&d, b, real)
			o.Notes = append(o.Notes, n)
			got, l := tour.Note(b, n)
			is("Note", o, got, l)
		}
		if len(b.Jobs) < api.MaxTourJobs {
			o := clone(b)
			j, _ := anyJob(&d, b)
			o.Jobs = append(o.Jobs, j)
			got, l := tour.Call(b, j)
			is("Call", o, got, l)
		}
	}
	for _, name := range []string{"Time", "Note", "Call"} {
		if known[name] < 300 || name != "Call" && (odds[name] < 100 || known[name]-odds[name] < 100) {
			t.Errorf("%s made too few books: %d, and %d odd ones", name, known[name], odds[name])
		}
	}
}

// P9.3: lists of notes that are long clash, too.
func TestLongClashes(t *testing.T) {
	d := dice.Dice(4)
	long := map[int]int{}
	for range 24000 {
		b, _ := anyBook(&d, true)
		list, l := tour.Clash(b)
		if l != api.Fine || !slices.Equal(list, oracle.Kept(list, func(i int) bool { return i < len(b.Notes) })) {
			t.Fatalf("%+v: Clash: %v, bell %d", b, list, l)
		}
		long[len(list)]++
	}
	if long[0] < 1000 || long[1] < 1000 || long[2] < 100 || long[3] < 1 {
		t.Errorf("how long clashes are: %v", long)
	}
}
