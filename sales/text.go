package sales

import (
	"strconv"
	"strings"

	"nosale/api"
	"nosale/lines"
)

// The words that lines begin with, in the order in which lines stand; the first one is that of the first line alone.
const (
	salesWord = iota
	slipWord
	sumWord
)

// The words that tell whether a sum can be false.
const (
	looseWord = "loose"
	firmWord  = "firm"
)

// signedWords returns the words that tell whether a fix is signed.
func signedWords() []string { return []string{api.Open: "open", api.Yes: "yes", api.No: "no"} }

// slipWords returns the words of the kinds of slips.
func slipWords() []string {
	var words []string
	for _, k := range slipKinds() {
		words = append(words, k.word)
	}
	return words
}

// sumWords returns the words of the kinds of sums.
func sumWords() []string {
	var words []string
	for _, k := range sumKinds() {
		words = append(words, k.word)
	}
	return words
}

type (
	mostLine int
	slipLine api.SalesSlip
	sumLine  api.SalesSum
)

func (l mostLine) Place() int { return salesWord }
func (l slipLine) Place() int { return slipWord }
func (l sumLine) Place() int  { return sumWord }

func (l mostLine) Text() string { return "sales " + strconv.Itoa(int(l)) }

func (l slipLine) Text() string {
	return strings.Join([]string{"slip", slipWords()[l.Kind], strconv.Itoa(l.Dept), strconv.Itoa(l.Clerk), strconv.Itoa(l.For), lines.WriteSpan(l.Amount), signedWords()[l.Signed]}, " ")
}

func (l sumLine) Text() string {
	word := looseWord
	if l.Firm {
		word = firmWord
	}
	return strings.Join([]string{"sum", sumWords()[l.Kind], strconv.Itoa(l.A), lines.WriteSpan(l.Many), word}, " ")
}

// printed returns the lines of the book's text.
func (b book) printed() []lines.Line {
	all := []lines.Line{mostLine(b.Most)}
	for _, s := range b.Slips {
		all = append(all, slipLine(s))
	}
	for _, s := range b.Sums {
		all = append(all, sumLine(s))
	}
	return all
}

// add adds to the book what a line says.
func (b *book) add(l lines.Placed) {
	switch l := l.(type) {
	case mostLine:
		b.Most = int(l)
	case slipLine:
		b.Slips = append(b.Slips, api.SalesSlip(l))
	case sumLine:
		b.Sums = append(b.Sums, api.SalesSum(l))
	}
}

// anyLine reads a line of any kind.
func anyLine(r *lines.Reading) lines.Placed {
	switch r.OneOf("sales", "slip", "sum") {
	case slipWord:
		return slipLine{
			Kind:   api.SalesKind(r.OneOf(slipWords()...)),
			Dept:   r.Number(),
			Clerk:  r.Number(),
			For:    r.Number(),
			Amount: r.Span(),
			Signed: api.Sure(r.OneOf(signedWords()...)),
		}
	case sumWord:
		return sumLine{
			Kind: api.SalesSumKind(r.OneOf(sumWords()...)),
			A:    r.Number(),
			Many: r.Span(),
			Firm: r.OneOf(looseWord, firmWord) == 1,
		}
	}
	return mostLine(r.Number())
}
