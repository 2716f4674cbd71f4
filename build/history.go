package build

import (
	"iter"
	"slices"
	"sync"

	"nosale/api"
	"nosale/histories"
	"nosale/lists"
	"nosale/spans"
)

// times is the time of each part; behind the last part there are zeros.
type times [api.MaxBuildParts]int

// allTimes yields all times that the parts can have, whatever the trials say.
func (b book) allTimes() iter.Seq[times] {
	return func(yield func(times) bool) {
		for list := range spans.Filled(len(b.Parts), func(part int) api.Span { return b.Parts[part].Time }) {
			var t times
			copy(t[:], list)
			if !yield(t) {
				return
			}
		}
	}
}

// takes returns how many ticks a machine takes.
func (b book) takes(m machine, t times) int {
	sum := 0
	for _, part := range m[:b.Places] {
		sum += t[part]
	}
	return sum
}

// pasts are all times that the parts can have, whatever the trials say, and, for each of them, the set of trials that agree with it, which has a bit for each.
type pasts struct {
	all   []times
	agree []int
}

// look is a trial, and the indexes of the times that agree with it.
type look struct {
	trial int
	agree []int
}

// lookAt returns which of some times agree with a trial.
func (b book) lookAt(trial int, all []times) look {
	l := look{trial: trial}
	t := b.Trials[trial]
	m := machineOf(t.Parts)
	for i := range all {
		if spans.Has(t.Took, b.takes(m, all[i])) {
			l.agree = append(l.agree, i)
		}
	}
	return l
}

// pasts looks at all trials.
func (b book) pasts() pasts {
	all := slices.Collect(b.allTimes())
	p := pasts{all, make([]int, len(all))}
	looks, done := make(chan look), make(chan struct{})
	var wait sync.WaitGroup
	for trial := range b.Trials {
		wait.Add(1)
		go func() {
			defer wait.Done()
			looks <- b.lookAt(trial, all)
		}()
	}
	go func() {
		wait.Wait()
		close(done)
	}()
	for {
		select {
		case l := <-looks:
			for _, i := range l.agree {
				p.agree[i] |= 1 << l.trial
			}
		case <-done:
			return p
		}
	}
}

// alone yields all histories of the book with the trials of a set alone.
func (p pasts) alone(set int) iter.Seq[times] {
	return func(yield func(times) bool) {
		for i, t := range p.all {
			if p.agree[i]&set == set && !yield(t) {
				return
			}
		}
	}
}

// histories yields all histories of the book.
func (b book) histories() iter.Seq[times] { return b.pasts().alone(1<<len(b.Trials) - 1) }

// clash returns the fewest trials that alone have no history, and of several such lists the least one; none if there is a history.
func (b book) clash() []int {
	p := b.pasts()
	trials, _ := lists.LeastSet(len(b.Trials), func(set int) bool { return !histories.Any(p.alone(set)) })
	return trials
}

// copyBook returns a book that shares no memory with b.
func copyBook(b api.BuildBook) api.BuildBook {
	b.Parts = slices.Clone(b.Parts)
	for i, p := range b.Parts {
		b.Parts[i].Fits = slices.Clone(p.Fits)
	}
	b.Apart = slices.Clone(b.Apart)
	b.Trials = slices.Clone(b.Trials)
	for i, t := range b.Trials {
		b.Trials[i].Parts = slices.Clone(t.Parts)
	}
	return b
}

// ifPossible returns a book if it has no bell, and a history.
func ifPossible(b api.BuildBook) (api.BuildBook, api.Bell) {
	o, l := open(b)
	return histories.IfAny(b, l, o.histories)
}
