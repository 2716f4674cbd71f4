package audit

import (
	"iter"
	"slices"

	"nosale/api"
)

// place is where an entry with For 0 stands: its number, and the entry that is in force there, with the number of that.
type place struct {
	of, number int
	entry      entry
}

// past is what became of the entries that were played: the file now, the places of those that stand, in order, and the bell of the last entry.
type past struct {
	now    api.AuditBook
	places []place
	bell   api.Bell
}

// player returns what plays entries on the file, one after the other: it takes the next one, and returns what became of all of them.
func (c checked) player() func(e api.AuditEntry) past {
	p := past{now: c.AuditBook}
	number, day := 0, 0
	return func(e api.AuditEntry) past {
		number++
		if number > 1 && e.Day < day {
			p.bell = api.Order
		} else {
			p = c.after(p, number, entry{e})
		}
		day = e.Day
		return p
	}
}

// after returns what becomes of the past once an entry is taken that is not out of order.
func (c checked) after(p past, number int, e entry) past {
	places := slices.Clone(p.places)
	var now api.AuditBook
	if e.For == 0 {
		places = append(places, place{number, number, e})
		now, p.bell = e.done(p.now)
	} else {
		at := slices.IndexFunc(places, func(x place) bool { return x.of == e.For })
		if at < 0 {
			p.bell = api.Missing
			return p
		}
		places[at] = place{e.For, number, e}
		now, p.bell = c.redone(places)
	}
	if p.bell == api.Fine {
		p.now, p.places = now, places
	}
	return p
}

// redone returns the file in which the entries in force in some places are done, one after the other, or the first bell of them.
func (c checked) redone(places []place) (now api.AuditBook, l api.Bell) {
	now = c.AuditBook
	for _, x := range places {
		if now, l = x.entry.done(now); l != api.Fine {
			return api.AuditBook{}, l
		}
	}
	return now, api.Fine
}

// prefixes yields how many entries were played, from none to all, and what became of them.
func (c checked) prefixes(entries []api.AuditEntry) iter.Seq2[int, past] {
	return func(yield func(int, past) bool) {
		if !yield(0, past{now: c.AuditBook}) {
			return
		}
		play := c.player()
		for i, e := range entries {
			if !yield(i+1, play(e)) {
				return
			}
		}
	}
}

// played returns what becomes of all entries.
func (c checked) played(entries []api.AuditEntry) past {
	var p past
	for _, p = range c.prefixes(entries) {
	}
	return p
}
