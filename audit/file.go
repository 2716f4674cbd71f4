package audit

import (
	"strconv"
	"strings"

	"nosale/api"
	"nosale/lines"
	"nosale/spans"
)

// texts is the text of each part of a file. Files are equal just if these are.
type texts [manyParts]string

// printed returns the texts of a file that has no bell.
func printed(b api.AuditBook) texts {
	var t texts
	for i, p := range parts() {
		t[i] = p.text(&b)
	}
	return t
}

// file returns the file whose parts have these texts. It shares no memory with any other one.
func (t texts) file() api.AuditBook {
	var b api.AuditBook
	for i, p := range parts() {
		p.read(&b, t[i])
	}
	return b
}

// copied returns a file that has no bell once more; both share no memory.
func copied(b api.AuditBook) api.AuditBook { return printed(b).file() }

// partWord is the word of the line at the head of a part.
const partWord = "part"

// whole returns the text of the file.
func (t texts) whole() string {
	var text strings.Builder
	for i, p := range parts() {
		many := len(lines.Split(t[i]))
		text.WriteString(partWord + " " + p.named() + " " + strconv.Itoa(many) + "\n" + t[i])
	}
	return text.String()
}

// seal returns the seal of the file.
func (t texts) seal() int {
	seal := 0
	// each character is one byte: there are no others in a file without a bell
	for _, c := range t.whole() {
		seal = (31*seal + int(c)) % api.AuditModulus
	}
	return seal
}

// checked is a file without a bell, and the texts of its parts.
type checked struct {
	api.AuditBook
	texts
}

// open returns a file that is checked, or its bell.
func open(b api.AuditBook) (checked, api.Bell) {
	if l := Check(b); l != api.Fine {
		return checked{}, l
	}
	return checked{b, printed(b)}, api.Fine
}

// openAll returns the texts of several files, or the bell of the first one that has one.
func openAll(files ...api.AuditBook) ([]texts, api.Bell) {
	var all []texts
	for _, b := range files {
		c, l := open(b)
		if l != api.Fine {
			return nil, l
		}
		all = append(all, c.texts)
	}
	return all, api.Fine
}

// openJournal returns a file that is checked, if there are not too many entries, or the bell.
func openJournal(b api.AuditBook, entries []api.AuditEntry) (checked, api.Bell) {
	c, l := open(b)
	if l == api.Fine && len(entries) > api.MaxAuditEntries {
		l = api.Count
	}
	return c, l
}

// wrongLine is the error of a text of a file: the line that is wrong, and the bell.
type wrongLine struct {
	line int
	bell api.Bell
}

func (w wrongLine) Error() string {
	return "line " + strconv.Itoa(w.line) + " has the bell " + strconv.Itoa(int(w.bell))
}

// read returns the file that a text tells of; the error is a wrongLine if there is one.
func read(text string) (api.AuditBook, error) {
	var b api.AuditBook
	all, line := lines.Split(text), 0
	for _, p := range parts() {
		rows, ok := rowsOf(p, all[line:])
		line++
		if !ok {
			return api.AuditBook{}, wrongLine{line, api.Shape}
		}
		if n, l := p.read(&b, strings.Join(rows, "\n")+"\n"); l != api.Fine {
			return api.AuditBook{}, wrongLine{line + n, l}
		}
		line += len(rows)
	}
	if line < len(all) {
		return api.AuditBook{}, wrongLine{line + 1, api.Shape}
	}
	return b, nil
}

// rowsOf returns the lines of a part, of those that begin with the line at its head, if they do.
func rowsOf(p part, all []string) (rows []string, ok bool) {
	if len(all) == 0 {
		return nil, false
	}
	head := lines.Read(all[0])
	head.OneOf(partWord)
	head.OneOf(p.named())
	many := head.Number()
	if !head.Right() || !spans.Within(many, 1, min(api.MaxAuditLines, len(all)-1)) {
		return nil, false
	}
	return all[1 : 1+many], true
}

// differ returns the parts in which files are not equal.
func (t texts) differ(other texts) []int {
	var list []int
	for i := range manyParts {
		if t[i] != other[i] {
			list = append(list, i)
		}
	}
	return list
}

// mergedTexts returns the texts of the file in which each part is that of whoever changed it, and the parts that were changed in two ways.
func mergedTexts(base, one, two texts) (all texts, clash []int) {
	for i := range manyParts {
		switch {
		case one[i] == base[i]:
			all[i] = two[i]
		case two[i] == base[i] || one[i] == two[i]:
			all[i] = one[i]
		default:
			clash = append(clash, i)
		}
	}
	return all, clash
}
