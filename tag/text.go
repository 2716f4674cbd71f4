package tag

import (
	"strings"

	"nosale/api"
	"nosale/lines"
)

// empty stands for what a line leaves empty.
const empty = "-"

// The places of lines, in their order; the first one is that of the first line alone.
const (
	housePlace = iota
	alikePlace
	tagPlace
)

type (
	houseLine struct{ letters, spare, repeat string }
	alikeLine string
	tagLine   api.TagTag
)

func (l houseLine) Place() int { return housePlace }
func (l alikeLine) Place() int { return alikePlace }
func (l tagLine) Place() int   { return tagPlace }

func (l houseLine) Text() string {
	return strings.Join([]string{"house", l.letters, orEmpty(l.spare), orEmpty(l.repeat)}, " ")
}

func (l alikeLine) Text() string { return "alike " + string(l) }

func (l tagLine) Text() string { return "tag " + l.Reads + " " + lines.WriteSpan(l.Price) }

// orEmpty returns a field for a text that can be empty.
func orEmpty(text string) string {
	if text == "" {
		return empty
	}
	return text
}

// written returns the lines of the house's text.
func (h house) written() []lines.Line {
	all := []lines.Line{houseLine{h.Letters, h.Spare, h.Repeat}}
	for _, pair := range h.Alike {
		all = append(all, alikeLine(pair))
	}
	for _, t := range h.Tags {
		all = append(all, tagLine(t))
	}
	return all
}

// add adds to the house what a line says.
func (h *house) add(l lines.Placed) {
	switch l := l.(type) {
	case houseLine:
		h.Letters, h.Spare, h.Repeat = l.letters, l.spare, l.repeat
	case alikeLine:
		h.Alike = append(h.Alike, string(l))
	case tagLine:
		h.Tags = append(h.Tags, api.TagTag(l))
	}
}

// anyLine reads a line of any kind. Whether letters are some, CheckHouse tells.
func anyLine(r *lines.Reading) lines.Placed {
	switch r.Word() {
	case "house":
		return houseLine{r.Word(), fieldOrEmpty(r), fieldOrEmpty(r)}
	case "alike":
		return alikeLine(r.Word())
	case "tag":
		return tagLine{r.Word(), r.Span()}
	}
	r.Fail()
	return nil
}

// fieldOrEmpty reads a field of a text that can be empty.
func fieldOrEmpty(r *lines.Reading) string {
	field := r.Word()
	if field == empty {
		return ""
	}
	return field
}
