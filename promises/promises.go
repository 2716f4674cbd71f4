// Package promises holds a layer to what shared/DOC.md promises of all of them: the tests of the layers call it.
package promises

import (
	"slices"
	"strings"
	"sync"

	"nosale/api"
	"nosale/oracle"
)

// manyTimes is how often a layer is asked at the same time.
const manyTimes = 3

// Test is what is told of a promise that is broken; each test of Go is one.
type Test interface {
	Helper()
	Errorf(format string, values ...any)
}

// Layer is how a layer prints and parses its books; HasShape if a book can have the bell Shape, LineBells if a line can have any bell that a book has. Show writes values so that those that are equal, and no others, look the same.
type Layer[B any] struct {
	Print     func(b B) (string, api.Bell)
	Parse     func(text string) (b B, line int, l api.Bell)
	HasShape  bool
	LineBells bool
	Show      func(values ...any) string
}

// AlwaysTheSame (P0.1, R4): what is reported of books is the same when it is asked again, and at the same time, and changes nothing.
func (x Layer[B]) AlwaysTheSame(t Test, report func(b B) string, books ...B) {
	t.Helper()
	for _, b := range books {
		before := x.Show(b)
		want := report(b)
		got := make([]string, manyTimes)
		var wait sync.WaitGroup
		for i := range got {
			wait.Add(1)
			go func() {
				defer wait.Done()
				got[i] = report(b)
			}()
		}
		wait.Wait()
		for _, g := range got {
			if g != want {
				t.Errorf("%.200s: other results when called again", before)
			}
		}
		if after := x.Show(b); after != before {
			t.Errorf("%.200s was changed: %.200s", before, after)
		}
	}
}

// PrintIsParsed (P0.3): what is printed of books without a bell is parsed as equal books, with or without the last line feed.
func (x Layer[B]) PrintIsParsed(t Test, books ...B) {
	t.Helper()
	for _, b := range books {
		text, l := x.Print(b)
		if l != api.Fine || !strings.HasSuffix(text, "\n") {
			t.Errorf("%s: %q, bell %d", x.Show(b), text, l)
		}
		for _, text := range []string{text, strings.TrimSuffix(text, "\n")} {
			if o, line, l := x.Parse(text); x.Show(o) != x.Show(b) || line != 0 || l != api.Fine {
				t.Errorf("%q: %s, line %d, bell %d", text, x.Show(o), line, l)
			}
		}
	}
}

// Parses (R2, R9): a text has a line that is wrong, and a bell, with which there is no book; what has no bell is printed as it was.
func (x Layer[B]) Parses(t Test, text string, line int, want api.Bell) {
	t.Helper()
	b, n, l := x.Parse(text)
	if n != line || l != want {
		t.Errorf("%.60q: line %d, bell %d, want %d, %d", text, n, l, line, want)
	}
	x.isBookOrBell(t, text, b, l)
}

// WrongLines (R9): each of these lines is the first one that is wrong if it stands behind others.
func (x Layer[B]) WrongLines(t Test, line int, before string, wrong ...string) {
	t.Helper()
	for _, w := range wrong {
		x.Parses(t, before+w+"\n", line, api.Shape)
	}
}

// AnyByte (P0.1, P0.3): each text of which one byte is any of some is a book that is printed like that, or has a bell; only a line that does not have its form has a number, or one that has a bell.
func (x Layer[B]) AnyByte(t Test, bytes string, texts ...string) {
	t.Helper()
	for _, from := range texts {
		for at := range len(from) {
			for i := range len(bytes) {
				text := from[:at] + bytes[i:i+1] + from[at+1:]
				b, line, l := x.Parse(text)
				if !x.canHave(line, l) {
					t.Errorf("%q: line %d, bell %d", text, line, l)
				}
				x.isBookOrBell(t, text, b, l)
			}
		}
	}
}

// canHave tells whether a text can have a bell, and a line that is wrong.
func (x Layer[B]) canHave(line int, l api.Bell) bool {
	switch {
	case line > 0:
		return l == api.Shape || x.LineBells && l != api.Fine
	case line == 0:
		return l != api.Shape || x.HasShape
	}
	return false
}

// isBookOrBell tells whether there is no book together with a bell, and a book that is printed as it was parsed without one.
func (x Layer[B]) isBookOrBell(t Test, text string, b B, l api.Bell) {
	t.Helper()
	if l != api.Fine {
		var none B
		if x.Show(b) != x.Show(none) {
			t.Errorf("%.60q: bell %d, and the book %s", text, l, x.Show(b))
		}
		return
	}
	if back, _ := x.Print(b); back != strings.TrimSuffix(text, "\n")+"\n" {
		t.Errorf("%.60q is printed as %q", text, back)
	}
}

// Case is the text of a book, and the text that it is to have once more is known of it; no text if there is to be a bell.
type Case struct {
	Text, Want string
	Bell       api.Bell
}

// News (R2, R4): a function made of old, the book of a case, the one that the case wants, or returned its bell, and no book; old is as it was. What was asked is only told.
func (x Layer[B]) News(t Test, c Case, old, b B, l api.Bell, asked ...any) {
	t.Helper()
	got := ""
	var none B
	if l == api.Fine {
		got, _ = x.Print(b)
	} else if x.Show(b) != x.Show(none) {
		t.Errorf("%q, %s: %s together with a bell", c.Text, x.Show(asked...), x.Show(b))
	}
	if got != c.Want || l != c.Bell {
		t.Errorf("%q, %s: %q, bell %d, want %q, %d", c.Text, x.Show(asked...), got, l, c.Want, c.Bell)
	}
	if now, _ := x.Print(old); now != c.Text {
		t.Errorf("%q was changed to %q", c.Text, now)
	}
}

// Clash: the list that is told to clash, of so many things, has no history by itself, and no shorter or lesser one does; there is no such list if all things together have one. Histories tells how many histories some things have alone.
func Clash(t Test, about string, things int, list []int, histories func(some []int) int) {
	t.Helper()
	if len(list) == 0 {
		if histories(oracle.Indexes(things)) == 0 {
			t.Errorf("%s: there is no history, but nothing clashes", about)
		}
		return
	}
	for _, some := range oracle.Subsets(things) {
		n := histories(some)
		is := slices.Equal(some, list)
		if is != (n == 0) {
			t.Errorf("%s: %v clash, but %v alone have %d histories", about, list, some, n)
		}
		if is {
			return
		}
	}
	t.Errorf("%s: %v clash, which are not there", about, list)
}

// Asked: the thing that is told to be asked about, of so many, leaves no more of all histories than is told, and is the first one that leaves so few; it is -1, and all are left, if none leaves fewer than all. Most tells how many histories are left at most once it is known what a thing is.
func Asked(t Test, about string, all, things, thing, left int, most func(thing int) int) {
	t.Helper()
	if thing < 0 && left != all || thing >= 0 && left >= all || thing < -1 || thing >= things {
		t.Errorf("%s: of %d histories %d leaves %d", about, all, thing, left)
	}
	for i := range things {
		if n := most(i); i == thing && n != left || n < left || i < thing && n == left {
			t.Errorf("%s: %d leaves %d, but %d is to be asked about, and to leave %d", about, i, n, thing, left)
		}
	}
}
