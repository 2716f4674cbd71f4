package wheels

import (
	"strconv"

	"nosale/api"
	"nosale/lines"
)

type (
	headLine  int
	wheelLine api.WheelsWheel
	startLine []int
	ringLine  api.WheelsRing
)

func (l headLine) Text() string { return "wheels " + strconv.Itoa(int(l)) }

func (l wheelLine) Text() string {
	return "wheel " + strconv.Itoa(l.Base) + " " + kinds()[l.Kind].word
}

func (l startLine) Text() string { return "start " + lines.WriteList(l) }

func (l ringLine) Text() string {
	return "ring " + lines.WriteList(l.Keys) + " " + lines.WriteList(l.Read)
}

// written returns the lines of the book's text.
func (c checked) written() []lines.Line {
	all := []lines.Line{headLine(c.Most)}
	for _, w := range c.Wheels {
		all = append(all, wheelLine(w))
	}
	all = append(all, startLine(c.Start))
	for _, r := range c.Rings {
		all = append(all, ringLine(r))
	}
	return all
}

// wrongLine is what reading panics with at a line that does not have its form, or its place.
type wrongLine struct{}

// readBook reads a book that is not checked yet; at a wrong line it returns its number and the bell.
func readBook(text string) (b api.WheelsBook, wrong int, s api.Bell) {
	texts := lines.Split(text)
	if len(texts) == 0 {
		return api.WheelsBook{}, 0, api.Shape
	}
	at, started := 0, false
	defer func() {
		if _, ok := recover().(wrongLine); ok {
			b, wrong, s = api.WheelsBook{}, at+1, api.Shape
		}
	}()
	for ; at < len(texts); at++ {
		l := readLine(texts[at])
		need(inPlace(l, at, started))
		switch l := l.(type) {
		case headLine:
			b.Most = int(l)
		case wheelLine:
			b.Wheels = append(b.Wheels, api.WheelsWheel(l))
		case startLine:
			b.Start, started = l, true
		case ringLine:
			b.Rings = append(b.Rings, api.WheelsRing(l))
		}
	}
	need(started)
	return b, 0, api.Fine
}

// need panics if a line is not as it is to be.
func need(right bool) {
	if !right {
		panic(wrongLine{})
	}
}

// inPlace tells whether a line can stand behind so many others, and before or behind the start.
func inPlace(l lines.Line, at int, started bool) bool {
	switch l.(type) {
	case headLine:
		return at == 0
	case ringLine:
		return started
	}
	return at > 0 && !started
}

// readLine reads a line; it panics if the line has not its form.
func readLine(text string) lines.Line {
	fields := lines.Fields(text)
	word, fields := fields[0], fields[1:]
	switch {
	case word == "wheels" && len(fields) == 1:
		return headLine(readNumber(fields[0]))
	case word == "wheel" && len(fields) == 2:
		return wheelLine{Base: readNumber(fields[0]), Kind: readKind(fields[1])}
	case word == "start" && len(fields) == 1:
		return startLine(readList(fields[0]))
	case word == "ring" && len(fields) == 2:
		return ringLine{Keys: readList(fields[0]), Read: readList(fields[1])}
	}
	panic(wrongLine{})
}

func readNumber(field string) int {
	n, ok := lines.Number(field)
	need(ok)
	return n
}

func readList(field string) []int {
	list, ok := lines.List(field)
	need(ok)
	return list
}

func readKind(field string) api.WheelsKind {
	for k, kind := range kinds() {
		if kind.word == field {
			return api.WheelsKind(k)
		}
	}
	panic(wrongLine{})
}
