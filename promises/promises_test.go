package promises

import (
	"fmt"
	"strings"
	"sync/atomic"
	"testing"

	"nosale/api"
)

// told is a test that counts what it is told.
type told struct{ many int }

func (t *told) Helper()                             {}
func (t *told) Errorf(format string, values ...any) { t.many++ }

func show(values ...any) string { return fmt.Sprintf("%+v", values) }

// parse reads a word of letters, which is the book of this layer; a wrong one has the bell Shape and the line 1, and one of more than three letters Count.
func parse(text string) (b string, line int, l api.Bell) {
	b = strings.TrimSuffix(text, "\n")
	switch {
	case strings.Trim(b, "abc") != "":
		return "", 1, api.Shape
	case len(b) > 3:
		return "", 0, api.Count
	}
	return b, 0, api.Fine
}

func print(b string) (string, api.Bell) { return b + "\n", api.Fine }

// right is a layer that keeps what is promised.
func right() Layer[string] { return Layer[string]{Print: print, Parse: parse, Show: show} }

// broken are layers that do not, each with something that tells it.
func broken() map[string]func(t Test) {
	with := func(change func(x *Layer[string])) Layer[string] {
		x := right()
		change(&x)
		return x
	}
	parsing := func(other func(text string) (string, int, api.Bell)) Layer[string] {
		return with(func(x *Layer[string]) { x.Parse = other })
	}
	printing := func(other func(b string) (string, api.Bell)) Layer[string] {
		return with(func(x *Layer[string]) { x.Print = other })
	}
	noFeed := parsing(func(text string) (string, int, api.Bell) {
		if !strings.HasSuffix(text, "\n") {
			return "", 1, api.Shape
		}
		return parse(text)
	})
	bellAndBook := parsing(func(text string) (string, int, api.Bell) {
		b, line, l := parse(text)
		if l != api.Fine {
			b = text
		}
		return b, line, l
	})
	return map[string]func(t Test){
		"a bell of a book": func(t Test) {
			printing(func(b string) (string, api.Bell) { return b + "\n", api.Odds }).PrintIsParsed(t, "a")
		},
		"no line feed":          func(t Test) { printing(func(b string) (string, api.Bell) { return b, api.Fine }).PrintIsParsed(t, "a") },
		"a line feed is needed": func(t Test) { noFeed.PrintIsParsed(t, "a") },
		"another book": func(t Test) {
			printing(func(b string) (string, api.Bell) { return "a\n", api.Fine }).PrintIsParsed(t, "b")
		},
		"printed otherwise": func(t Test) {
			printing(func(b string) (string, api.Bell) { return "a\n", api.Fine }).Parses(t, "b\n", 0, api.Fine)
		},
		"another bell":            func(t Test) { right().Parses(t, "a\n", 0, api.Count) },
		"another line":            func(t Test) { right().Parses(t, "x\n", 2, api.Shape) },
		"no bell":                 func(t Test) { right().WrongLines(t, 1, "", "x", "a") },
		"a book with a bell":      func(t Test) { bellAndBook.Parses(t, "x\n", 1, api.Shape) },
		"a book with a bell, any": func(t Test) { bellAndBook.AnyByte(t, "x", "a\n") },
		"a line with another bell": func(t Test) {
			parsing(func(string) (string, int, api.Bell) { return "", 1, api.Count }).AnyByte(t, "a", "a\n")
		},
		"a line of a book": func(t Test) {
			parsing(func(text string) (string, int, api.Bell) { return strings.TrimSuffix(text, "\n"), 1, api.Fine }).AnyByte(t, "a", "a\n")
		},
		"a line of a book, and any bell": func(t Test) {
			x := parsing(func(text string) (string, int, api.Bell) { return strings.TrimSuffix(text, "\n"), 1, api.Fine })
			x.LineBells = true
			x.AnyByte(t, "a", "a\n")
		},
		"a line below 0": func(t Test) {
			parsing(func(string) (string, int, api.Bell) { return "", -1, api.Shape }).AnyByte(t, "a", "a\n")
		},
		"another book of news": func(t Test) { right().News(t, Case{"a\n", "b\n", api.Fine}, "a", "c", api.Fine) },
		"a bell of news":       func(t Test) { right().News(t, Case{"a\n", "b\n", api.Fine}, "a", "", api.Odds) },
		"another bell of news": func(t Test) { right().News(t, Case{"a\n", "", api.Odds}, "a", "", api.Bound) },
		"news with a bell":     func(t Test) { right().News(t, Case{"a\n", "", api.Odds}, "a", "b", api.Odds) },
		"news that change":     func(t Test) { right().News(t, Case{"a\n", "b\n", api.Fine}, "b", "b", api.Fine) },
		"no clash":             func(t Test) { Clash(t, "", 3, nil, twoClash) },
		"too few clash":        func(t Test) { Clash(t, "", 3, []int{1}, twoClash) },
		"too many clash":       func(t Test) { Clash(t, "", 3, []int{0, 1, 2}, twoClash) },
		"others clash":         func(t Test) { Clash(t, "", 3, []int{0, 2}, twoClash) },
		"lesser ones clash":    func(t Test) { Clash(t, "", 4, []int{2, 3}, twoClash) },
		"what is not there":    func(t Test) { Clash(t, "", 2, []int{2}, func([]int) int { return 1 }) },
		"nothing is asked":     func(t Test) { Asked(t, "", 9, 4, -1, 9, leaves) },
		"too few are left":     func(t Test) { Asked(t, "", 9, 4, 1, 3, leaves) },
		"too many are left":    func(t Test) { Asked(t, "", 9, 4, 1, 5, leaves) },
		"a later one is asked": func(t Test) { Asked(t, "", 9, 4, 2, 4, leaves) },
		"a worse one is asked": func(t Test) { Asked(t, "", 9, 4, 0, 8, leaves) },
		"none below -1":        func(t Test) { Asked(t, "", 4, 0, -2, 4, leaves) },
		"none that is there":   func(t Test) { Asked(t, "", 9, 1, 1, 4, leaves) },
		"all are left":         func(t Test) { Asked(t, "", 4, 4, 1, 4, leaves) },
		"fewer than all":       func(t Test) { Asked(t, "", 4, 0, -1, 3, leaves) },
		"Shape without a line": func(t Test) {
			parsing(func(string) (string, int, api.Bell) { return "", 0, api.Shape }).AnyByte(t, "a", "a\n")
		},
	}
}

// twoClash tells how many histories some things have: 1 and 2 contradict each other, and so do 2 and 3.
func twoClash(some []int) int {
	if strings.Contains(show(some), "1 2") || strings.Contains(show(some), "2 3") {
		return 0
	}
	return 5
}

// leaves tells how many histories each of four things leaves.
func leaves(thing int) int { return []int{8, 4, 4, 6}[thing] }

func TestBroken(t *testing.T) {
	for name, hold := range broken() {
		x := &told{}
		if hold(x); x.many == 0 {
			t.Errorf("%s is not told", name)
		}
	}
}

func TestRight(t *testing.T) {
	right().PrintIsParsed(t, "", "a", "abc")
	right().Parses(t, "abc", 0, api.Fine)
	right().Parses(t, "abca\n", 0, api.Count)
	right().WrongLines(t, 1, "a", "x", "\na")
	right().AnyByte(t, "abcx\n\xff", "a\n", "abc", "")
	right().News(t, Case{"a\n", "b\n", api.Fine}, "a", "b", api.Fine, 1)
	right().News(t, Case{"a\n", "", api.Odds}, "a", "", api.Odds)
	Clash(t, "two", 4, []int{1, 2}, twoClash)
	Clash(t, "none", 2, nil, twoClash)
	Clash(t, "nothing", 0, nil, twoClash)
	Asked(t, "the first one", 9, 4, 1, 4, leaves)
	Asked(t, "none", 4, 4, -1, 4, leaves)
	Asked(t, "nothing", 3, 0, -1, 3, leaves)
	shaped := right()
	shaped.HasShape = true
	shaped.Parse = func(text string) (string, int, api.Bell) { return "", 0, api.Shape }
	shaped.AnyByte(t, "ab", "a\n")
	lined := right()
	lined.LineBells = true
	lined.Parse = func(text string) (string, int, api.Bell) { return "", 1, api.Count }
	lined.AnyByte(t, "ab", "a\n")
}

func TestAlwaysTheSame(t *testing.T) {
	var calls atomic.Int64
	lists := Layer[[]int]{Show: show}
	for name, x := range map[string]struct {
		report func(b []int) string
		right  bool
	}{
		"the same":   {func(b []int) string { return show(b) }, true},
		"others":     {func(b []int) string { return show(calls.Add(1)) }, false},
		"is changed": {spoil, false},
	} {
		got := &told{}
		if lists.AlwaysTheSame(got, x.report, nil, []int{1, 2}); (got.many == 0) != x.right {
			t.Errorf("%s: told %d times", name, got.many)
		}
	}
}

// spoil changes a list when it is called for the first time; several goroutines only read it then.
func spoil(b []int) string {
	if len(b) > 0 && b[0] == 1 {
		b[0] = 7
	}
	return ""
}
