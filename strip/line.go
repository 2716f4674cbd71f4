package strip

import "nosale/api"

// digits are those of a number as they are printed; behind the last one there are zero bytes.
type digits [api.MaxStripDigits]byte

// printDigits returns a number with so many digits.
func printDigits(n, long int) digits {
	var d digits
	for i := range long {
		d[long-1-i] = byte('0' + n%10)
		n /= 10
	}
	return d
}

// readDigits returns the digits of a text that was checked.
func readDigits(text string) digits {
	var d digits
	copy(d[:], text)
	return d
}

// behind returns what can be read of digits if those that cannot be read in a text cannot be read.
func (d digits) behind(text string) digits {
	for i, r := range text {
		if r == smudge {
			d[i] = smudge
		}
	}
	return d
}

// line is a line of a strip as it is printed.
type line struct {
	number, amount, total digits
	dept, clerk           int
}

// last returns the last line of a history.
func (c checked) last(h history) line {
	s := h.sold[h.lines-1]
	a := c.Articles[s.Article]
	return line{
		number: printDigits(c.number(h.lines-1), c.numberLong()),
		amount: printDigits(a.Price, amountLong),
		total:  printDigits(h.total, c.Digits),
		dept:   a.Dept,
		clerk:  s.Clerk,
	}
}

// agrees tells whether the last line of a history is as an entry is printed.
func (c checked) agrees(h history, e api.StripItem) bool {
	l := c.last(h)
	l.number, l.amount, l.total = l.number.behind(e.Number), l.amount.behind(e.Amount), l.total.behind(e.Total)
	if e.Dept == unread {
		l.dept = unread
	}
	if e.Clerk == unread {
		l.clerk = unread
	}
	return l == line{readDigits(e.Number), readDigits(e.Amount), readDigits(e.Total), e.Dept, e.Clerk}
}

// joined returns the entry with all that can be read in either of both; ok is false if they contradict each other.
func joined(a, b api.StripItem) (e api.StripItem, ok bool) {
	right := true
	text := func(a, b string) string {
		t, ok := joinedDigits(a, b)
		right = right && ok
		return t
	}
	number := func(a, b int) int {
		right = right && (a == b || a == unread || b == unread)
		// What cannot be read is less than all that can.
		return max(a, b)
	}
	e.Number, e.Amount, e.Total = text(a.Number, b.Number), text(a.Amount, b.Amount), text(a.Total, b.Total)
	e.Dept, e.Clerk = number(a.Dept, b.Dept), number(a.Clerk, b.Clerk)
	return e, right
}

// joinedDigits returns the digits that can be read in either of two texts of the same length.
func joinedDigits(a, b string) (string, bool) {
	all := []byte(a)
	for i, r := range b {
		switch {
		case r == smudge:
		case all[i] == smudge:
			all[i] = b[i]
		case all[i] != b[i]:
			return "", false
		}
	}
	return string(all), true
}
