package evening

import (
	"strconv"
	"strings"

	"nosale/api"
	"nosale/lines"
)

// The kinds of lines, in the order in which they stand; the first one is that of the first line alone.
const (
	headKind = iota
	clerkKind
	hourKind
	slipKind
	countKind
)

// wordsFrom returns the words of a kind of lines, and of those that stand behind it.
func wordsFrom(kind int) []string {
	var words []string
	switch kind {
	case headKind:
		words = append(words, "evening")
		fallthrough
	case clerkKind:
		words = append(words, "clerk")
		fallthrough
	case hourKind:
		words = append(words, "hour")
		fallthrough
	case slipKind:
		words = append(words, "wheel")
		fallthrough
	case countKind:
		words = append(words, "count")
	}
	return words
}

type (
	headLine struct {
		most, take, slips int
		float             api.Span
	}
	clerkLine string
	hourLine  api.EveningHour
	slipLine  api.EveningSlip
	countLine api.EveningCount
)

func (l headLine) Place() int  { return headKind }
func (l clerkLine) Place() int { return clerkKind }
func (l hourLine) Place() int  { return hourKind }
func (l slipLine) Place() int  { return slipKind }
func (l countLine) Place() int { return countKind }

func (l headLine) Text() string {
	return written(l, strconv.Itoa(l.most), strconv.Itoa(l.take), strconv.Itoa(l.slips), lines.WriteSpan(l.float))
}

func (l clerkLine) Text() string { return written(l, string(l)) }

func (l hourLine) Text() string {
	return written(l, lines.WriteSpan(l.Said), lines.WriteList(l.Staff))
}

func (l slipLine) Text() string {
	return written(l, strconv.Itoa(l.Hour), strconv.Itoa(l.Error))
}

func (l countLine) Text() string {
	return written(l, strconv.Itoa(l.After), lines.WriteSpan(l.Money))
}

// written returns the text of a line that has some fields.
func written(l lines.Placed, fields ...string) string {
	return wordsFrom(l.Place())[0] + " " + strings.Join(fields, " ")
}

// printed returns the lines of the book's text.
func (b book) printed() []lines.Line {
	all := []lines.Line{headLine{b.Most, b.Take, b.Slips, b.Float}}
	for _, name := range b.Clerks {
		all = append(all, clerkLine(name))
	}
	for _, h := range b.Hours {
		all = append(all, hourLine(h))
	}
	for _, s := range b.Wheels {
		all = append(all, slipLine(s))
	}
	for _, c := range b.Counts {
		all = append(all, countLine(c))
	}
	return all
}

// add adds to the book what a line says.
func (b *book) add(l lines.Placed) {
	switch l := l.(type) {
	case headLine:
		b.Most, b.Take, b.Slips, b.Float = l.most, l.take, l.slips, l.float
	case clerkLine:
		b.Clerks = append(b.Clerks, string(l))
	case hourLine:
		b.Hours = append(b.Hours, api.EveningHour(l))
	case slipLine:
		b.Wheels = append(b.Wheels, api.EveningSlip(l))
	case countLine:
		b.Counts = append(b.Counts, api.EveningCount(l))
	}
}

// anyLine reads a line of any kind. Whether a name is one, CheckBook tells.
func anyLine(r *lines.Reading) lines.Placed {
	switch r.OneOf(wordsFrom(headKind)...) {
	case clerkKind:
		return clerkLine(r.Word())
	case hourKind:
		return hourLine{Said: r.Span(), Staff: r.List()}
	case slipKind:
		return slipLine{Hour: r.Number(), Error: r.Number()}
	case countKind:
		return countLine{After: r.Number(), Money: r.Span()}
	}
	return headLine{most: r.Number(), take: r.Number(), slips: r.Number(), float: r.Span()}
}
