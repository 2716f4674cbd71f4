package audit

import (
	"slices"
	"strconv"
	"strings"

	"nosale/api"
	"nosale/lines"
	"nosale/spans"
)

const (
	// journalWord is the word of the first line of a journal, entryWord that of all others.
	journalWord = "journal"
	entryWord   = "entry"
	// noText is how a text without a byte is written.
	noText = "-"
)

// headLine is the first line of a journal: the seal of the file.
type headLine struct{ seal int }

// entryLine is a line of a journal: an entry, and the seal of the file behind it.
type entryLine struct {
	entry
	seal int
}

func (x headLine) Text() string { return journalWord + " " + strconv.Itoa(x.seal) }

func (x entryLine) Text() string {
	text := x.S
	if text == "" {
		text = noText
	}
	return strings.Join([]string{
		entryWord, strconv.Itoa(x.Day), strconv.Itoa(x.For), kinds()[x.Kind].word, strconv.Itoa(x.A), strconv.Itoa(x.B),
		lines.WriteList(x.L), lines.WriteSpan(x.Many), text, strconv.Itoa(x.seal),
	}, " ")
}

// canBeKept tells whether the entry can stand in a journal.
func (e entry) canBeKept() bool {
	isField := e.S != noText && !strings.ContainsAny(e.S, " \n")
	numbers := slices.Concat([]int{e.Day, e.For, e.A, e.B, e.Many.Low, e.Many.High}, e.L)
	return e.hasKind() && isField && !slices.ContainsFunc(numbers, func(n int) bool { return !spans.Within(n, -lines.Most, lines.Most) })
}

// kept returns the lines of the journal of some entries, each of which can stand in one.
func (c checked) kept(entries []api.AuditEntry) []lines.Line {
	var all []lines.Line
	for n, p := range c.prefixes(entries) {
		seal := printed(p.now).seal()
		if n == 0 {
			all = append(all, headLine{seal})
		} else {
			all = append(all, entryLine{entry{entries[n-1]}, seal})
		}
	}
	return all
}

// readHead returns the first line of a journal, if it has the form of one.
func readHead(text string) (headLine, bool) {
	r := lines.Read(text)
	r.OneOf(journalWord)
	x := headLine{r.Number()}
	return x, r.Right()
}

// readEntry returns a line of an entry, if it has the form of one.
func readEntry(text string) (entryLine, bool) {
	r := lines.Read(text)
	r.OneOf(entryWord)
	x := entryLine{
		entry{api.AuditEntry{Day: r.Number(), For: r.Number(), Kind: api.AuditKind(r.OneOf(kindWords()...)), A: r.Number(), B: r.Number(), L: r.List(), Many: r.Span(), S: r.Word()}},
		r.Number(),
	}
	if x.S == noText {
		x.S = ""
	}
	return x, r.Right()
}

// faulty is the error of a journal: the first line that has a fault, and the fault.
type faulty struct {
	line  int
	fault api.AuditFault
}

func (f faulty) Error() string {
	return "line " + strconv.Itoa(f.line) + " has the fault " + strconv.Itoa(int(f.fault))
}

// inspected works through the text of a journal, and returns the file behind all lines, or behind those before the first one that has a fault; the error is faulty then.
func (c checked) inspected(text string) (now api.AuditBook, err error) {
	head, rest, _ := strings.Cut(text, "\n")
	first, right := readHead(head)
	if !right {
		return c.AuditBook, faulty{1, api.AuditForm}
	}
	if first.seal != c.seal() {
		return c.AuditBook, faulty{1, api.AuditBroken}
	}
	now = c.AuditBook
	play, all := c.player(), lines.Split(rest)
reading:
	for i := range len(all) {
		x, right := readEntry(all[i])
		line := i + 2
		switch {
		case !right:
			err = faulty{line, api.AuditForm}
			break reading
		case i >= api.MaxAuditEntries:
			err = faulty{line, api.AuditMany}
			break reading
		}
		next := play(x.AuditEntry).now
		if printed(next).seal() != x.seal {
			err = faulty{line, api.AuditBroken}
			break reading
		}
		now = next
	}
	return now, err
}
