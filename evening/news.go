package evening

import (
	"slices"
	"sync"

	"nosale/api"
	"nosale/histories"
)

// taken is a duty, and an amount that can have been taken there, 0 if nothing was.
type taken struct{ duty, amount int }

// often returns in how many of some histories each amount was taken at each duty.
func (c checked) often(all []history) map[taken]int {
	many := map[taken]int{}
	var lock sync.Mutex
	var wait sync.WaitGroup
	for duty := range c.duties {
		wait.Add(1)
		go func() {
			defer wait.Done()
			at := oftenAt(all, duty)
			lock.Lock()
			defer lock.Unlock()
			for amount, n := range at {
				many[taken{duty, amount}] = n
			}
		}()
	}
	wait.Wait()
	return many
}

// oftenAt returns in how many of some histories each amount was taken at a duty.
func oftenAt(all []history, duty int) [api.MaxEveningTake + 1]int {
	var at [api.MaxEveningTake + 1]int
	for _, h := range all {
		at[h.taken[duty]]++
	}
	return at
}

// ask returns the duty whose amount leaves the fewest of some histories at most once it is known, and how many those are; -1 if none leaves fewer.
func (c checked) ask(all []history) (duty, left int) {
	many := c.often(all)
	return histories.Best(len(all), len(c.duties), func(duty int) int {
		most := 0
		for amount := range c.Take + 1 {
			most = max(most, many[taken{duty, amount}])
		}
		return most
	})
}

// copyBook returns a book that shares no memory with b.
func copyBook(b api.EveningBook) api.EveningBook {
	b.Clerks = slices.Clone(b.Clerks)
	b.Hours = slices.Clone(b.Hours)
	for i, h := range b.Hours {
		b.Hours[i].Staff = slices.Clone(h.Staff)
	}
	b.Wheels = slices.Clone(b.Wheels)
	b.Counts = slices.Clone(b.Counts)
	return b
}

// ifPossible returns a book if it has no bell, and a history.
func ifPossible(b api.EveningBook) (api.EveningBook, api.Bell) {
	c, l := open(b)
	return histories.IfAny(b, l, c.histories)
}
