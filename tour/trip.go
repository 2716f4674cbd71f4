package tour

import "nosale/api"

// start is the index of the works, from which the traveller comes, and where he is home.
const start = 0

// trip goes from one place to another one.
type trip struct{ from, to int }

// trips returns the least time of each trip, there and back, that can be made if the ways take some times.
func (b book) trips(t times) map[trip]int {
	least := map[trip]int{}
	for place := range len(b.Places) {
		least[trip{place, place}] = 0
	}
	for way, w := range b.Ways {
		least[trip{w.A, w.B}] = t[way]
		least[trip{w.B, w.A}] = t[way]
	}
	// behind this all trips are known on which no places lie but those up to over
	for over := range len(b.Places) {
		b.goOver(least, over)
	}
	return least
}

// goOver takes the trips over a place into those that are known, where they are shorter.
func (b book) goOver(least map[trip]int, over int) {
starts:
	for from := range len(b.Places) {
		for to := range len(b.Places) {
			first, leads := least[trip{from, over}]
			if !leads {
				continue starts
			}
			second, leads := least[trip{over, to}]
			time, known := least[trip{from, to}]
			if leads && (!known || first+second < time) {
				least[trip{from, to}] = first + second
			}
		}
	}
}

// checked is a book without a bell that has a history, and the times of all trips for all times that the ways can have.
type checked struct {
	book
	byTimes map[times]map[trip]int
}

// travelled returns the book and its trips; Odds if there is no history.
func (b book) travelled() (checked, api.Bell) {
	c := checked{b, map[times]map[trip]int{}}
	for t := range b.travels() {
		c.byTimes[t] = b.trips(t)
	}
	if len(c.byTimes) == 0 {
		return checked{}, api.Odds
	}
	return c, api.Fine
}

// checkRound returns a book that is checked, if a round of it has no bell, or the bell.
func checkRound(b api.TourBook, round []int) (checked, api.Bell) {
	o, l := openRound(b, round)
	if l != api.Fine {
		return checked{}, l
	}
	return o.travelled()
}
