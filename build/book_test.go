package build_test

import (
	"fmt"
	"math"
	"slices"
	"strings"
	"testing"

	"nosale/api"
	"nosale/build"
	"nosale/promises"
)

// parts are those of the book B of the chapter's examples, and its pair.
const parts = "part cam 4 3 2..3 0+1+2\npart gear 3 3 2 1+2\npart pawl 5 1 1..4 0+2\napart 1 1\n"

// The books B and W of the chapter's examples, and some more.
const (
	textB = "build 8 3\n" + parts + "trial 2+1+2 6..8\n"
	textW = "build 8 3\npart cam 4 3 2..3 0\npart gear 3 3 2 1+2\npart pawl 5 1 1..4 0\napart 1 1\n"
	// B without trials
	textNew = "build 8 3\n" + parts
	// as little as there can be
	textBare = "build 1 1\npart a 0 0 0 none\n"
	// one machine
	textOne = "build 8 1\npart a 1 1 2 0\n"
	// a trial that never took so long
	textOdd = textB + "trial 2+1+2 9\n"
	// two trials that contradict each other
	textClash = textB + "trial 0+1+2 9\n"
	// as many of all as there can be
	textAll = "build 99 4\npart abcdefghij 99 3 17..20 0+1+2+3\npart b 0 0 0..3 0+1+2+3\npart c9 1 2 5..8 0+1+2+3\npart d 50 1 20 0+1+2+3\npart e 7 3 6..9 0+1+2+3\napart 0 0\napart 0 4\napart 1 1\napart 1 2\napart 3 4\ntrial 0+1+0+1 0..99\ntrial 2+2+2+2 20..32\ntrial 3+3+3+3 80\ntrial 1+4+1+4 0..40\n"
)

// texts returns the texts of all books above.
func texts() []string {
	return []string{textB, textW, textNew, textBare, textOne, textOdd, textClash, textAll}
}

// parse reads a text that has no bell.
func parse(t *testing.T, text string) api.BuildBook {
	t.Helper()
	b, line, l := build.Parse(text)
	if l != api.Fine || line != 0 {
		t.Fatalf("%q: bell %d in line %d", text, l, line)
	}
	return b
}

// to returns the span from a to b.
func to(a, b int) api.Span { return api.Span{Low: a, High: b} }

// trial returns a trial.
func trial(took api.Span, parts ...int) api.BuildTrial {
	return api.BuildTrial{Parts: parts, Took: took}
}

// pair returns a pair.
func pair(a, b int) api.BuildPair { return api.BuildPair{A: a, B: b} }

// clone returns a book that shares no memory with b.
func clone(b api.BuildBook) api.BuildBook {
	b.Parts, b.Apart, b.Trials = slices.Clone(b.Parts), slices.Clone(b.Apart), slices.Clone(b.Trials)
	for i := range b.Parts {
		b.Parts[i].Fits = slices.Clone(b.Parts[i].Fits)
	}
	for i := range b.Trials {
		b.Trials[i].Parts = slices.Clone(b.Trials[i].Parts)
	}
	return b
}

// show writes values so that nil and empty slices look the same.
func show(values ...any) string { return fmt.Sprintf("%+v", values) }

// numbers returns numbers within and out of all bounds.
func numbers() []int {
	return []int{math.MinInt, -1, 0, 1, 2, 3, 4, 5, 20, 99, math.MaxInt}
}

// machines returns lists that are machines of some books, and some that are none.
func machines() [][]int {
	return [][]int{nil, {0}, {1}, {-1}, {0, 0}, {0, 0, 0}, {0, 0, 1}, {2, 1, 2}, {0, 1, 1}, {1, 0, 0}, {0, 3, 0}, {0, -1, 9}, {0, 1, 0, 1}, {2, 2, 2, 2}, {0, 0, 0, 0}, {4, 1, 3, 2}, {math.MaxInt, math.MinInt, 0}, slices.Repeat([]int{1}, 1000)}
}

// report calls each function with a book, and writes all results.
func report(b api.BuildBook) string {
	var out strings.Builder
	put := func(name string, values ...any) { fmt.Fprintln(&out, name, show(values...)) }
	put("CheckBook", build.CheckBook(b))
	n, l := build.Machines(b)
	put("Machines", n, l)
	list, l := build.Why(b)
	put("Why", list, l)
	n, l = build.Histories(b)
	put("Histories", n, l)
	put("choices", choices(b))
	list, l = build.Clash(b)
	put("Clash", list, l)
	text, l := build.Print(b)
	put("Print", text, l)
	for _, n := range numbers() {
		reportNumber(b, n, put)
	}
	for _, machine := range machines() {
		reportMachine(b, machine, put)
	}
	return out.String()
}

// choices writes the results of the functions that need a history, and nothing else.
func choices(b api.BuildBook) string {
	safe, l := build.Safe(b)
	fewest, different, l2 := build.Fewest(b)
	cheapest, cost, l3 := build.Cheapest(b)
	swiftest, took, l4 := build.Swiftest(b)
	needs, l5 := build.Needs(b)
	builds, l6 := build.Builds(b)
	part, left, l7 := build.Ask(b)
	return show(safe, fewest, different, cheapest, cost, swiftest, took, needs, builds, part, left, l, l2, l3, l4, l5, l6, l7)
}

// bellsAlone writes the results of these functions if Safe, Builds and Ask have one bell, and the others another one.
func bellsAlone(l, none api.Bell) string {
	return show(0, []int{}, 0, []int{}, 0, []int{}, api.Span{}, []int{}, 0, 0, 0, l, none, none, none, none, l, l)
}

// reportNumber calls each function that takes a place or a part.
func reportNumber(b api.BuildBook, n int, put func(name string, values ...any)) {
	list, l := build.Can(b, n)
	put("Can", n, list, l)
	list, l = build.Times(b, n)
	put("Times", n, list, l)
	for _, s := range []api.Span{to(0, 20), to(2, 2), to(3, 4), to(2, 1), to(-1, 2), to(0, 21), to(math.MinInt, math.MaxInt), to(math.MaxInt, math.MinInt)} {
		o, l := build.Time(b, n, s)
		put("Time", n, s, o, l)
	}
}

// reportMachine calls each function that takes a machine.
func reportMachine(b api.BuildBook, machine []int, put func(name string, values ...any)) {
	n, l := build.Different(b, machine)
	put("Different", machine, n, l)
	n, l = build.Cost(b, machine)
	put("Cost", machine, n, l)
	s, l := build.Turns(b, machine)
	put("Turns", machine, s, l)
	sure, l := build.Late(b, machine)
	put("Late", machine, sure, l)
	for _, took := range []api.Span{to(0, 99), to(7, 7), to(8, 7), to(-1, 7), to(0, 100), to(math.MinInt, math.MaxInt)} {
		o, l := build.Try(b, trial(took, machine...))
		put("Try", machine, took, o, l)
	}
}

// layer is how this layer is held to what is promised of all of them.
func layer() promises.Layer[api.BuildBook] {
	return promises.Layer[api.BuildBook]{Print: build.Print, Parse: build.Parse, HasShape: true, Show: show}
}
