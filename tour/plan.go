package tour

import (
	"cmp"
	"slices"

	"nosale/api"
	"nosale/spans"
)

// plan is when each job of a round can end, and when the traveller can be home.
type plan struct {
	ends []api.Span
	home api.Span
}

// planBy returns the plan of a round if the trips take some times. The work of a job is free of all else.
func (b book) planBy(trips map[trip]int, round []int) plan {
	var p plan
	place, now := start, spans.One(0)
	for _, job := range round {
		j := b.Jobs[job]
		now = spans.Sum(now, spans.One(trips[trip{place, j.Place}]), j.Work)
		p.ends = append(p.ends, now)
		place = j.Place
	}
	p.home = spans.Sum(now, spans.One(trips[trip{place, start}]))
	return p
}

// joined returns the plan of a round that can be that of any of several plans of it.
func (p plan) joined(others ...plan) plan {
	all := plan{slices.Clone(p.ends), p.home}
	for _, o := range others {
		for i, s := range o.ends {
			all.ends[i] = spans.Joined(all.ends[i], s)
		}
		all.home = spans.Joined(all.home, o.home)
	}
	return all
}

// plan returns the plan of a round, whatever times the ways have.
func (c checked) plan(round []int) plan {
	var several []plan
	for _, trips := range c.byTimes {
		several = append(several, c.planBy(trips, round))
	}
	return several[0].joined(several[1:]...)
}

// late returns how sure it is that a job is late if it can end at any time of a span.
func (b book) late(job int, ends api.Span) api.Sure {
	switch due := b.Jobs[job].Due; {
	case ends.Low > due:
		return api.Yes
	case ends.High <= due:
		return api.No
	}
	return api.Open
}

// isSafe tells whether a round is safe.
func (c checked) isSafe(round []int) bool {
	if !c.fits(round) {
		return false
	}
	for i, ends := range c.plan(round).ends {
		if c.late(round[i], ends) != api.No {
			return false
		}
	}
	return true
}

// compare compares two rounds: first comes the one with more jobs, then the one from which the traveller is home earlier at the latest, then the least list.
func (c checked) compare(a, b []int) int {
	latest := func(round []int) int { return c.plan(round).home.High }
	return cmp.Or(cmp.Compare(len(b), len(a)), cmp.Compare(latest(a), latest(b)), slices.Compare(a, b))
}
