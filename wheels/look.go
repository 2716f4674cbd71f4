package wheels

import (
	"iter"
	"sync"

	"nosale/api"
	"nosale/histories"
)

// contradictions yields each list of rings whose looks no history shows, all others being unread.
func (c checked) contradictions() iter.Seq[[]int] {
	return func(yield func([]int) bool) {
		agreed := c.agreements()
	lists:
		for set := range 1 << len(c.Rings) {
			for rings, can := range agreed {
				if can && rings&set == set {
					continue lists
				}
			}
			if !yield(elements(set)) {
				return
			}
		}
	}
}

// agreements tells of each set of rings, with a bit for each, whether there would be a history that shows what was read behind these, and behind no others, if nobody had looked.
func (c checked) agreements() [1 << api.MaxWheelsRings]bool {
	var agreed [1 << api.MaxWheelsRings]bool
	for h := range c.unlooked().histories() {
		set := 0
		for r := range len(c.Rings) {
			if c.agrees(h.shown[r+1], r) {
				set |= 1 << r
			}
		}
		agreed[set] = true
	}
	return agreed
}

// elements returns the numbers of the bits of a set.
func elements(set int) []int {
	var list []int
	for n := range api.MaxWheelsRings {
		if set>>n&1 == 1 {
			list = append(list, n)
		}
	}
	return list
}

// sight is what all wheels show behind a ring.
type sight struct {
	ring  int
	shown row
}

// sights returns, for each sight behind a ring where nobody looked, how many histories are left if it is seen.
func (c checked) sights() map[sight]int {
	left := map[sight]int{}
	var lock sync.Mutex
	var wait sync.WaitGroup
	for ring := range len(c.Rings) {
		if c.lookedAt(ring) {
			continue
		}
		wait.Add(1)
		go func() {
			defer wait.Done()
			behind := c.shownBehind(ring)
			lock.Lock()
			defer lock.Unlock()
			for shown, many := range behind {
				left[sight{ring, shown}] = many
			}
		}()
	}
	wait.Wait()
	return left
}

// shownBehind returns how many histories show each row behind a ring.
func (c checked) shownBehind(ring int) map[row]int {
	many := map[row]int{}
	for h := range c.histories() {
		many[h.shown[ring+1]]++
	}
	return many
}

// bestLook returns the ring to look behind, and the most histories that are left then; -1, and how many there are, if no ring leaves fewer.
func (c checked) bestLook() (ring, left int) {
	var worst [api.MaxWheelsRings]int
	for s, many := range c.sights() {
		worst[s.ring] = max(worst[s.ring], many)
	}
	ring, left = -1, histories.Count(c.histories())
	for r := range len(c.Rings) {
		if !c.lookedAt(r) && worst[r] < left {
			ring, left = r, worst[r]
		}
	}
	return ring, left
}
