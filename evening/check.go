package evening

import (
	"nosale/api"
	"nosale/checks"
	"nosale/names"
	"nosale/spans"
)

// book is a book that can have a bell.
type book struct{ api.EveningBook }

// lists returns the lists of a book in the order in which they are checked. Duties are only counted: their bells are those of their hours.
func (b book) lists() []checks.List[book] {
	return []checks.List[book]{
		{Long: book.longClerks, Bell: book.checkClerk},
		{Long: book.longHours, Bell: book.checkHour},
		{Long: book.longDuties},
		{Long: book.longWheels, Bell: book.checkSlip},
		{Long: book.longCounts, Bell: book.checkCount},
	}
}

// bell returns the first bell of the book.
func (b book) bell() api.Bell {
	if !spans.Within(b.Most, 0, api.MaxEveningMost) || !spans.Within(b.Take, 0, api.MaxEveningTake) {
		return api.Bound
	}
	if !spans.Within(b.Slips, 0, api.MaxEveningSlips) || !isMoney(b.Float) {
		return api.Bound
	}
	return checks.First(b, b.lists()...)
}

func (b book) longClerks() (many int, right bool) {
	return len(b.Clerks), len(b.Clerks) <= api.MaxEveningClerks
}

func (b book) longHours() (many int, right bool) {
	return len(b.Hours), spans.Within(len(b.Hours), 1, api.MaxEveningHours)
}

func (b book) longDuties() (many int, right bool) {
	return 0, len(b.allDuties()) <= api.MaxEveningDuties
}

func (b book) longWheels() (many int, right bool) {
	return len(b.Wheels), len(b.Wheels) <= api.MaxEveningWheels
}

func (b book) longCounts() (many int, right bool) {
	return len(b.Counts), len(b.Counts) <= len(b.Hours)
}

// checkClerk returns the bell of a clerk.
func (b book) checkClerk(i int) api.Bell {
	return names.Bell(i, func(i int) string { return b.Clerks[i] })
}

// checkHour returns the bell of an hour.
func (b book) checkHour(i int) api.Bell {
	h := b.Hours[i]
	if !isMoney(h.Said) {
		return api.Bound
	}
	return checks.Rising(h.Staff, len(b.Clerks))
}

// checkSlip returns the bell of a slip.
func (b book) checkSlip(i int) api.Bell {
	s := b.Wheels[i]
	if !b.hasHour(s.Hour) {
		return api.Missing
	}
	if s.Error == 0 || !spans.Within(s.Error, -api.MaxEveningError, api.MaxEveningError) {
		return api.Bound
	}
	return api.Fine
}

// checkCount returns the bell of a count.
func (b book) checkCount(i int) api.Bell {
	c := b.Counts[i]
	if !b.hasHour(c.After) {
		return api.Missing
	}
	if i > 0 && c.After <= b.Counts[i-1].After {
		return api.Order
	}
	if !isMoney(c.Money) {
		return api.Bound
	}
	return api.Fine
}

// isMoney tells whether a span is one of money in a drawer.
func isMoney(s api.Span) bool { return spans.IsFrom(s, 0, api.MaxEveningMoney) }

// hasClerk tells whether a number is the index of a clerk.
func (b book) hasClerk(clerk int) bool { return spans.Within(clerk, 0, len(b.Clerks)-1) }

// hasHour tells whether a number is the index of an hour.
func (b book) hasHour(hour int) bool { return spans.Within(hour, 0, len(b.Hours)-1) }

// hasSlip tells whether a number is the index of a slip.
func (b book) hasSlip(slip int) bool { return spans.Within(slip, 0, len(b.Wheels)-1) }

// hasCount tells whether a number is the index of a count.
func (b book) hasCount(count int) bool { return spans.Within(count, 0, len(b.Counts)-1) }
