package audit_test

import (
	"strconv"
	"strings"
	"testing"

	"nosale/api"
	"nosale/audit"
	"nosale/dice"
)

// lineOf returns the number of the line of F's text in which a text begins first.
func lineOf(t *testing.T, text string) int {
	t.Helper()
	before, _, found := strings.Cut(textF(), text)
	if !found {
		t.Fatalf("%q is not in the text of F", text)
	}
	return strings.Count(before, "\n") + 1
}

// changed is the text of F with something else in the place of something.
func changed(t *testing.T, old, next string) string {
	t.Helper()
	lineOf(t, old)
	return strings.Replace(textF(), old, next, 1)
}

// P10.1, P0.3: the text of a file is that of each part, behind a line that says how many lines it has; what is written is read as it was.
func TestWriteAndRead(t *testing.T) {
	d := dice.Dice(1)
	var books []api.AuditBook
	texts := everyText()
	for range 60 {
		texts = append(texts, anyText(&d, true))
	}
	for _, text := range texts {
		b := parse(t, text)
		if got := written(t, b); got != text {
			t.Errorf("%q is written as %q", text, got)
		}
		books = append(books, b)
	}
	layer().PrintIsParsed(t, books...)
}

// P10.1: Read returns the bell of a line of a file that is not where it is to be, and its number; the first one decides.
func TestReadParts(t *testing.T) {
	whole := textF()
	all := strings.Count(whole, "\n")
	for i, v := range varieties() {
		head := "part " + v.word + " " + strconv.Itoa(strings.Count(v.f, "\n")) + "\n"
		line := lineOf(t, head)
		for _, next := range []string{"", "\n", head + head, "part " + v.word + "\n", "part " + v.word + " 0\n", "part " + v.word + " 00\n", "part " + v.word + " -1\n", "part " + v.word + " 0" + head[len(head)-2:], "part " + v.word + " x\n", "part " + v.word + " 100\n", "part " + v.word + " 999999999\n", "part " + v.word + " 9999999999\n", "part " + v.word + " 1 1\n", "part " + v.word + "  1\n", "part  " + v.word + " 1\n", " " + head, "Part" + head[4:], "parts" + head[4:], "part " + strings.ToUpper(v.word) + " 1\n", "part x 1\n", "part " + v.word + "s 1\n", v.word + " 1\n", "part 1 " + v.word + "\n", strings.TrimSuffix(head, "\n") + " \n", strings.TrimSuffix(head, "\n") + "\r\n"} {
			text := strings.Replace(whole, head, next, 1)
			want := line
			if next == head+head {
				want = line + 1 // the chapter says that its first line is wrong
			}
			layer().Parses(t, text, want, api.Shape)
		}
		// another part in its place
		other := varieties()[(i+1)%manyParts].word
		layer().Parses(t, strings.Replace(whole, "part "+v.word, "part "+other, 1), line, api.Shape)
		// the text ends before the part, and behind the line at its head
		before, _, _ := strings.Cut(whole, head)
		layer().Parses(t, before, line, api.Shape)
		layer().Parses(t, before+head, line, api.Shape)
		// it ends behind the part, or its last line is not there
		behind := line + 1 + strings.Count(v.f, "\n")
		short := v.f[:1+strings.LastIndex(v.f[:len(v.f)-1], "\n")]
		if i < manyParts-1 {
			layer().Parses(t, before+head+v.f, behind, api.Shape)
		}
		layer().Parses(t, before+head+short, line, api.Shape)
	}
	layer().Parses(t, "", 1, api.Shape)
	layer().Parses(t, "\n", 1, api.Shape)
	layer().Parses(t, whole+"\n", all+1, api.Shape)
	layer().Parses(t, whole+"x\n", all+1, api.Shape)
	layer().Parses(t, whole+"\nx\n", all+1, api.Shape)
	layer().Parses(t, whole+whole, all+1, api.Shape)
	layer().Parses(t, strings.TrimSuffix(whole, "\n"), 0, api.Fine)
}

// P10.1: a part that has one line more, or one less, than is said is wrong where its chapter says, or at the line of the next part.
func TestReadCounts(t *testing.T) {
	for i, v := range varieties() {
		many := strings.Count(v.f, "\n")
		head := "part " + v.word + " " + strconv.Itoa(many) + "\n"
		line := lineOf(t, head)
		more := changed(t, head, "part "+v.word+" "+strconv.Itoa(many+1)+"\n")
		less := changed(t, head, "part "+v.word+" "+strconv.Itoa(many-1)+"\n")
		wantMore, wantLess := line+many+1, line+many
		if i == manyParts-1 {
			wantMore = line
		}
		layer().Parses(t, more, wantMore, api.Shape)
		layer().Parses(t, less, wantLess, api.Shape)
	}
	// as many lines as there can be, and one more
	full := textOf([manyParts]string{wheelsPart: strings.Repeat("wheel 2 tight\n", 99)})
	layer().Parses(t, full, 2, api.Shape)
	layer().Parses(t, strings.Replace(full, "part wheels 99\n", "part wheels 99\nwheels 0\n", 1), 101, api.Shape)
	layer().Parses(t, strings.Replace(full, "part wheels 99\n", "part wheels 100\nwheels 0\n", 1), 1, api.Shape)
}

// P10.1: Read returns the bell with which a chapter reads its part, and the number of the line that it is about: that of the line of the part, or that at its head.
func TestReadBells(t *testing.T) {
	line := func(text string) int { return lineOf(t, text) }
	for _, x := range []struct {
		old, next string
		line      int
		want      api.Bell
	}{
		// lines of parts
		{"ring 11+19+0 none", "ring 11+19+0", line("ring 11"), api.Shape}, {"wheels 1\n", "wheel 1\n", line("wheels 1\n"), api.Shape}, {"start 0+0+0\n", "wheel 2 tight\n", line("ring 11"), api.Shape},
		{"torn 0..2", "torn 2..", line("torn"), api.Shape}, {"house ", "House ", line("house "), api.Shape}, {"drawer 1..2", "drawer 1...2", line("drawer 1..2"), api.Shape}, {"apart 1 1", "apart 1", line("apart 1 1"), api.Shape}, {"sum clerk 1 12 loose", "sum clerk 1 12 lose", line("sum clerk"), api.Shape}, {"wheel 1 2\n", "slip 1 2\n", line("wheel 1 2\n"), api.Shape}, {"count 1 10 5\n", "count 1 10 05\n", line("count 1 10 5\n"), api.Shape}, {"job 0 1 20 1\n", "job 0 1 20 1 1\n", line("job 0 1 20 1\n"), api.Shape},
		// all lines are wheels, and there is no start: the line is the one behind the part
		{textA, "wheels 1\n" + strings.Repeat("wheel 12 drops\n", 6), line("part strip"), api.Shape},
		// books
		{"wheels 1\n", "wheels 3\n", line("part wheels"), api.Bound}, {"wheel 12 drops", "wheel 21 drops", line("part wheels"), api.Bound}, {"torn 0..2", "torn 0..3", line("part strip"), api.Bound}, {"article 1 40", "article 1 25", line("part strip"), api.Twice}, {"entry 98 ", "entry 098 ", line("part strip"), api.Shape}, {"house MAKE", "house AKE", line("part tag"), api.Shape}, {"alike EF", "alike EE", line("part tag"), api.Twice}, {"change 4+2+1", "change 4+2+2", line("part change"), api.Order}, {"sale 2 1+0+0", "sale 5 1+0+0", line("part change"), api.Short}, {"part cam", "part Cam", line("part build"), api.Label}, {"apart 1 1", "apart 1 3", line("part build"), api.Missing}, {"slip back 1 0 0 ", "slip back 1 0 3 ", line("part sales"), api.Missing}, {"clerk bob", "clerk ann", line("part evening"), api.Twice}, {"stock 10 1", "stock 0 1", line("part stock"), api.Bound}, {"move came 1 5 10", "move came 1 1 10", line("part stock"), api.Order}, {"tour 3 1", "tour 10 1", line("part tour"), api.Bound}, {"way 1 2 4\nway 0 2 5", "way 0 1 4\nway 0 1 5", line("part tour"), api.Twice},
	} {
		layer().Parses(t, changed(t, x.old, x.next), x.line, x.want)
	}
	// the first part that is wrong decides, whatever the others are
	both := strings.NewReplacer("wheels 1\n", "wheels 3\n", "torn 0..2", "torn", "part tag", "part x").Replace(textF())
	layer().Parses(t, both, line("part wheels"), api.Bound)
	both = strings.NewReplacer("torn 0..2", "torn", "part tag", "part x", "part build", "part x").Replace(textF())
	layer().Parses(t, both, line("torn"), api.Shape)
	both = strings.NewReplacer("part tag", "part x", "change 4+2+1", "change 1+2").Replace(textF())
	layer().Parses(t, both, line("part tag"), api.Shape)
}

// P10.1: Read returns Count, and no line, if there are too many bytes.
func TestReadTooMuch(t *testing.T) {
	for _, text := range []string{strings.Repeat("x", api.MaxText+1), textF() + strings.Repeat("\n", api.MaxText), strings.Repeat("part wheels 1\n", 1000000)} {
		layer().Parses(t, text, 0, api.Count)
	}
	layer().Parses(t, strings.Repeat("x", api.MaxText), 1, api.Shape)
	layer().Parses(t, textF()+strings.Repeat("\n", api.MaxText-len(textF())), strings.Count(textF(), "\n")+1, api.Shape)
}

// P10.1, P0.1: any change of a byte is read as a file that is written like that, or has a bell.
func TestReadAnything(t *testing.T) {
	layer().AnyByte(t, "\x00\n 0129+-.?aejkprtx\xff", textF())
}

// P10.1: the seal of a file is found from its text, byte by byte.
func TestSeal(t *testing.T) {
	d := dice.Dice(2)
	texts := everyText()
	for range 100 {
		texts = append(texts, anyText(&d, true))
	}
	seals := map[int]bool{}
	for _, text := range texts {
		seal, l := audit.Seal(parse(t, text))
		if seal != sealOf(text) || l != api.Fine {
			t.Errorf("%q: seal %d, bell %d, want %d", text, seal, l, sealOf(text))
		}
		seals[seal] = true
	}
	if len(seals) < 100 {
		t.Errorf("only %d seals", len(seals))
	}
}
