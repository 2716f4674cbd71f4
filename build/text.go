package build

import (
	"strconv"
	"strings"

	"nosale/api"
	"nosale/lines"
)

// The places of lines, in their order; the first one is that of the first line alone.
const (
	headPlace = iota
	partPlace
	pairPlace
	trialPlace
)

type (
	headLine  struct{ beat, places int }
	partLine  api.BuildPart
	pairLine  api.BuildPair
	trialLine api.BuildTrial
)

func (l headLine) Place() int  { return headPlace }
func (l partLine) Place() int  { return partPlace }
func (l pairLine) Place() int  { return pairPlace }
func (l trialLine) Place() int { return trialPlace }

func (l headLine) Text() string {
	return "build " + strconv.Itoa(l.beat) + " " + strconv.Itoa(l.places)
}

func (l partLine) Text() string {
	return strings.Join([]string{"part", l.Name, strconv.Itoa(l.Cost), strconv.Itoa(l.Stock), lines.WriteSpan(l.Time), lines.WriteList(l.Fits)}, " ")
}

func (l pairLine) Text() string { return "apart " + strconv.Itoa(l.A) + " " + strconv.Itoa(l.B) }

func (l trialLine) Text() string {
	return "trial " + lines.WriteList(l.Parts) + " " + lines.WriteSpan(l.Took)
}

// written returns the lines of the book's text.
func (b book) written() []lines.Line {
	all := []lines.Line{headLine{b.Beat, b.Places}}
	for _, p := range b.Parts {
		all = append(all, partLine(p))
	}
	for _, p := range b.Apart {
		all = append(all, pairLine(p))
	}
	for _, t := range b.Trials {
		all = append(all, trialLine(t))
	}
	return all
}

// add adds to the book what a line says.
func (b *book) add(l lines.Placed) {
	switch l := l.(type) {
	case headLine:
		b.Beat, b.Places = l.beat, l.places
	case partLine:
		b.Parts = append(b.Parts, api.BuildPart(l))
	case pairLine:
		b.Apart = append(b.Apart, api.BuildPair(l))
	case trialLine:
		b.Trials = append(b.Trials, api.BuildTrial(l))
	}
}

// anyLine reads a line of any kind. Whether a name is one, CheckBook tells.
func anyLine(r *lines.Reading) lines.Placed {
	switch r.Word() {
	case "build":
		return headLine{r.Number(), r.Number()}
	case "part":
		return partLine{Name: r.Word(), Cost: r.Number(), Stock: r.Number(), Time: r.Span(), Fits: r.List()}
	case "apart":
		return pairLine{A: r.Number(), B: r.Number()}
	case "trial":
		return trialLine{Parts: r.List(), Took: r.Span()}
	}
	r.Fail()
	return nil
}
