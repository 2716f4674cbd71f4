package wheels_test

import (
	"fmt"
	"strings"
	"testing"

	"nosale/api"
	"nosale/promises"
	"nosale/wheels"
)

// The machine and the books of the chapter's examples, and some more.
const (
	textP = "wheels 1\nwheel 12 drops\nwheel 20 tight\nwheel 10 doubles\nstart 0+0+0\n"
	textA = textP + "ring 11+19+0 none\nring 1+0+0 none\n"
	textB = textP + "ring 11+19+0 none\nring 1+0+0 0+19+0\n"
	textC = textP + "ring 11+19+0 none\nring 1+0+0 0+0+2\n"
	// a carry that doubles makes the next one carry
	textD = "wheels 2\nwheel 10 doubles\nwheel 10 drops\nwheel 10 tight\nstart 8+8+0\nring 2+0+0 none\nring 5+0+0 none\n"
	// two digits at first are not known
	textE = "wheels 1\nwheel 3 drops\nwheel 4 doubles\nwheel 2 tight\nstart -1+-1+0\nring 2+3+0 none\nring 1+0+1 -1+2+-1\n"
)

// book parses a text that has no bell.
func book(t *testing.T, text string) api.WheelsBook {
	t.Helper()
	b, line, s := wheels.Parse(text)
	if s != api.Fine || line != 0 {
		t.Fatalf("%q: bell %d in line %d", text, s, line)
	}
	return b
}

// clone returns a book that shares no memory with b.
func clone(b api.WheelsBook) api.WheelsBook {
	b.Wheels = append([]api.WheelsWheel(nil), b.Wheels...)
	b.Start = append([]int(nil), b.Start...)
	rings := b.Rings
	b.Rings = nil
	for _, r := range rings {
		b.Rings = append(b.Rings, api.WheelsRing{Keys: append([]int(nil), r.Keys...), Read: append([]int(nil), r.Read...)})
	}
	return b
}

// show writes values so that nil and empty slices look the same.
func show(values ...any) string { return fmt.Sprint(values...) }

// digitLists returns digits of a book's machine that are all right, and some that are not.
func digitLists(b api.WheelsBook) [][]int {
	lists := [][]int{nil, {}, {-1}, {1, 1}, {0, 0, 0}, {-1, -1, -1}, {1, 0, 1}, {11, 19, 9}, {12, 0, 0}, {-2, 0, 0}, make([]int, 9), {1 << 62, -1 << 63, 0}}
	var low, high, open []int
	for _, w := range b.Wheels {
		low, high, open = append(low, 0), append(high, w.Base-1), append(open, -1)
	}
	return append(lists, low, high, open)
}

// slipLists returns lists of wheels that can slip together, and some that cannot.
func slipLists() [][]int {
	return [][]int{nil, {0}, {1}, {2}, {0, 1}, {1, 0}, {0, 0}, {-1}, {99}, {0, 1, 2, 3, 4, 5}}
}

// numbers returns numbers within and out of all bounds.
func numbers() []int {
	return []int{-1 << 63, -2, -1, 0, 1, 2, 3, 5, 6, 7, 239, 2399, 2400, 1<<63 - 1}
}

// report calls each function with a book, and writes all results.
func report(b api.WheelsBook) string {
	var out strings.Builder
	put := func(name string, values ...any) { fmt.Fprintln(&out, name, show(values...)) }
	put2 := func(name string, value any, s api.Bell) { put(name, value, s) }
	put("CheckBook", wheels.CheckBook(b))
	n, s := wheels.Range(b)
	put2("Range", n, s)
	n, s = wheels.Sum(b)
	put2("Sum", n, s)
	n, s = wheels.Histories(b)
	put2("Histories", n, s)
	l, s := wheels.Errors(b)
	put2("Errors", l, s)
	slips, s := wheels.Fewest(b)
	put2("Fewest", slips, s)
	l, s = wheels.Clash(b)
	put2("Clash", l, s)
	ring, left, s := wheels.Look(b)
	put("Look", ring, left, s)
	text, s := wheels.Print(b)
	put2("Print", text, s)
	for _, n := range numbers() {
		l, s := wheels.Digits(b, n)
		put2("Digits", l, s)
		l, s = wheels.Shows(b, n)
		put2("Shows", l, s)
		o, s := wheels.Tight(b, n)
		put2("Tight", o, s)
		for _, m := range []int{-1, 0, 1, 2, 5, 1 << 60} {
			sure, s := wheels.Slipped(b, n, m)
			put2("Slipped", sure, s)
		}
	}
	for _, digits := range digitLists(b) {
		reportDigits(b, digits, put)
	}
	return out.String()
}

// reportDigits calls each function that takes digits.
func reportDigits(b api.WheelsBook, digits []int, put func(name string, values ...any)) {
	n, s := wheels.Amount(b, digits)
	put("Amount", n, s)
	l, s := wheels.Next(b, digits)
	put("Next", l, s)
	for _, ring := range []int{-1, 0, 1, 2, 7} {
		o, s := wheels.Read(b, ring, digits)
		put("Read", o, s)
	}
	for _, keys := range digitLists(b) {
		after, carries, s := wheels.Ring(b, digits, keys)
		put("Ring", after, carries, s)
		for _, slips := range slipLists() {
			l, s := wheels.Slide(b, digits, keys, slips)
			put("Slide", l, s)
		}
	}
}

// layer is how this layer is held to what is promised of all of them.
func layer() promises.Layer[api.WheelsBook] {
	return promises.Layer[api.WheelsBook]{Print: wheels.Print, Parse: wheels.Parse, Show: show}
}
