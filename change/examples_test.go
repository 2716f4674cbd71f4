package change_test

import (
	"testing"

	"nosale/api"
	"nosale/change"
)

// P4.1, P4.2, P4.3, P4.4: the chapter's examples, each row of its table.
func TestExamples(t *testing.T) {
	b := parse(t, textD)
	is := func(name string, want string, got ...any) {
		t.Helper()
		if s := show(got...); s != want {
			t.Errorf("%s: %s, want %s", name, s, want)
		}
	}
	amount, l := change.Amount(b, []int{1, 1, 1})
	is("Amount", "[7 0]", amount, l)
	coins, found, l := change.Give(b, []int{2, 1, 1}, 6)
	is("Give 6", "[[1 1 0] true 0]", coins, found, l)
	coins, found, l = change.Give(b, []int{1, 0, 1}, 2)
	is("Give 2", "[[] false 0]", coins, found, l)
	list, l := change.Cannot(b, []int{1, 0, 1}, 6)
	is("Cannot", "[[2 3 6] 0]", list, l)
	in, out, found, l := change.Swap(b, []int{1, 0, 1}, 3)
	is("Swap", "[[0 2 0] [1 0 0] true 0]", in, out, found, l)
	refused, after, l := change.Play(b, []int{0, 1, 1}, []int{0, 1, 2})
	is("Play", "[[1] [1 0 1] 0]", refused, after, l)
	refused, after, l = change.Play(b, []int{0, 2, 1}, []int{0, 1, 2})
	is("Play", "[[] [2 0 1] 0]", refused, after, l)
	many, _ := change.Histories(b)
	had, _ := change.Had(b, 1)
	left0, _ := change.Left(b, 0)
	left2, _ := change.Left(b, 2)
	is("Histories", "[12 [1 2] [1 2] [1 2]]", many, had, left0, left2)
	goes0, _ := change.Goes(b, 0)
	goes2, _ := change.Goes(b, 2)
	runs, _ := change.Runs(b)
	is("Goes, Runs", show(api.Open, api.Yes, api.Open), goes0, goes2, runs)
	order, n, l := change.Best(b)
	is("Best", "[[0 1 2] 1 0]", order, n, l)
	more, found, l := change.Float(b)
	is("Float", "[[0 1 0] true 0]", more, found, l)
	kind, left, l := change.Ask(b)
	is("Ask", "[0 6 0]", kind, left, l)
	seen, l := change.See(b, 1, false)
	many, _ = change.Histories(seen)
	is("See", "[3 0]", many, l)
	counted, l := change.Note(b, count(2, 2, 2))
	many, _ = change.Histories(counted)
	had, _ = change.Had(counted, 1)
	is("a count of the kind 2", "[3 [1] 0]", many, had, l)
	list, l = change.Clash(parse(t, textClash))
	is("Clash", "[[0 1] 0]", list, l)
	text, l := change.Print(b)
	is("Print", show(textD, api.Fine), text, l)
}
