package tag

import (
	"strings"

	"nosale/api"
	"nosale/lines"
)

// empty stands for what a line leaves empty.
const empty = "-"

type (
	houseLine struct{ letters, spare, repeat string }
	alikeLine string
	tagLine   api.TagTag
)

func (l houseLine) Text() string {
	return strings.Join([]string{"house", l.letters, orEmpty(l.spare), orEmpty(l.repeat)}, " ")
}

func (l alikeLine) Text() string { return "alike " + string(l) }

func (l tagLine) Text() string { return "tag " + l.Reads + " " + lines.WriteSpan(l.Price) }

// orEmpty returns a field for a text that can be empty.
func orEmpty(text string) string {
	if text == "" {
		return empty
	}
	return text
}

// written returns the lines of the house's text.
func (h house) written() []lines.Line {
	all := []lines.Line{houseLine{h.Letters, h.Spare, h.Repeat}}
	for _, pair := range h.Alike {
		all = append(all, alikeLine(pair))
	}
	for _, t := range h.Tags {
		all = append(all, tagLine(t))
	}
	return all
}

// readHouse reads a house that is not checked yet.
func readHouse(text string) (house, error) {
	texts := lines.Split(text)
	if len(texts) == 0 {
		return house{}, lines.Wrong{}
	}
	var h house
	for i, t := range texts {
		l, ok := readLine(t)
		if !ok || !h.add(l, i == 0) {
			return house{}, lines.Wrong{Line: i + 1}
		}
	}
	return h, nil
}

// add adds to the house what a line says, and tells whether the line can stand there; it is the first one, or not.
func (h *house) add(l lines.Line, first bool) bool {
	switch l := l.(type) {
	case houseLine:
		h.Letters, h.Spare, h.Repeat = l.letters, l.spare, l.repeat
		return first
	case alikeLine:
		if len(h.Tags) > 0 {
			return false
		}
		h.Alike = append(h.Alike, string(l))
	case tagLine:
		h.Tags = append(h.Tags, api.TagTag(l))
	}
	return !first
}

// readLine reads a line, and tells whether it has one of the forms. Whether letters are some, CheckHouse tells.
func readLine(text string) (lines.Line, bool) {
	var l lines.Line
	r := lines.Read(text)
	switch r.Word() {
	case "house":
		l = houseLine{r.Word(), fieldOrEmpty(r), fieldOrEmpty(r)}
	case "alike":
		l = alikeLine(r.Word())
	case "tag":
		l = tagLine{r.Word(), r.Span()}
	default:
		r.Fail()
	}
	return l, r.Right()
}

// fieldOrEmpty reads a field of a text that can be empty.
func fieldOrEmpty(r *lines.Reading) string {
	field := r.Word()
	if field == empty {
		return ""
	}
	return field
}
