package evening_test

import (
	"slices"

	"nosale/api"
	"nosale/dice"
	"nosale/oracle"
)

// The oracle goes through all that can have been taken, all that can have slipped, and all the money that there can have been, number by number; it calls nothing of the package.

// past is what was taken, and the slips that happened.
type past struct {
	takings []api.EveningTaking
	slips   []int
}

// takenBy returns what was taken, by the takings of which something is so.
func (p past) takenBy(is func(t api.EveningTaking) bool) int {
	sum := 0
	for _, t := range p.takings {
		if is(t) {
			sum += t.Amount
		}
	}
	return sum
}

func (p past) ofClerk(clerk int) int {
	return p.takenBy(func(t api.EveningTaking) bool { return t.Clerk == clerk })
}

func (p past) ofHour(hour int) int {
	return p.takenBy(func(t api.EveningTaking) bool { return t.Hour == hour })
}

func (p past) ofDuty(hour, clerk int) int {
	return p.takenBy(func(t api.EveningTaking) bool { return t.Hour == hour && t.Clerk == clerk })
}

func (p past) loss() int { return p.takenBy(func(t api.EveningTaking) bool { return true }) }

// lost returns how much less came into the drawer in an hour than was said.
func (p past) lost(b api.EveningBook, hour int) int {
	sum := p.ofHour(hour)
	for _, i := range p.slips {
		if b.Wheels[i].Hour == hour {
			sum += b.Wheels[i].Error
		}
	}
	return sum
}

// duties returns the duties of a book, as takings of nothing.
func duties(b api.EveningBook) []api.EveningTaking {
	var list []api.EveningTaking
	for hour, h := range b.Hours {
		for _, clerk := range h.Staff {
			list = append(list, taking(hour, clerk, 0))
		}
	}
	return list
}

// amounts returns the takings at some duties, with all amounts.
func amounts(list []api.EveningTaking, take int) [][]api.EveningTaking {
	all := [][]api.EveningTaking{nil}
	for _, d := range list {
		var longer [][]api.EveningTaking
		for _, before := range all {
			for n := 1; n <= take; n++ {
				longer = append(longer, append(slices.Clone(before), taking(d.Hour, d.Clerk, n)))
			}
		}
		all = longer
	}
	return all
}

// plays returns all that can have happened, whatever was counted.
func plays(b api.EveningBook) []past {
	var all []past
	for _, list := range oracle.Chosen(duties(b), b.Most) {
		for _, taken := range amounts(list, b.Take) {
			for _, slips := range oracle.Chosen(oracle.Indexes(len(b.Wheels)), b.Slips) {
				all = append(all, past{taken, slips})
			}
		}
	}
	return all
}

// agrees tells whether there are numbers of the float and of what was said with which the counts are right.
func agrees(b api.EveningBook, p past) bool {
	can := map[int]bool{}
	for n := b.Float.Low; n <= b.Float.High; n++ {
		can[n] = true
	}
	for hour, h := range b.Hours {
		next := map[int]bool{}
		for money := range can {
			for said := h.Said.Low; said <= h.Said.High; said++ {
				next[money+said-p.lost(b, hour)] = true
			}
		}
		for _, c := range b.Counts {
			for money := range next {
				if c.After == hour && (money < c.Money.Low || money > c.Money.High) {
					delete(next, money)
				}
			}
		}
		can = next
	}
	return len(can) > 0
}

// pasts returns all histories of a book.
func pasts(b api.EveningBook) []past {
	return oracle.Kept(plays(b), func(p past) bool { return agrees(b, p) })
}

// fewestOf returns the fewest takings, of several those with the least money, of several of these the least list.
func fewestOf(all []past) []api.EveningTaking {
	least := slices.MinFunc(all, func(p, q past) int {
		flat := func(p past) []int {
			list := []int{len(p.takings), p.loss()}
			for _, t := range p.takings {
				list = append(list, t.Hour, t.Clerk, t.Amount)
			}
			return list
		}
		return slices.Compare(flat(p), flat(q))
	})
	return least.takings
}

// handsOf returns the fewest clerks who can have done it alone.
func handsOf(b api.EveningBook, all []past) []int {
	for _, clerks := range oracle.Subsets(len(b.Clerks)) {
		for _, p := range all {
			if !slices.ContainsFunc(p.takings, func(t api.EveningTaking) bool { return !slices.Contains(clerks, t.Clerk) }) {
				return clerks
			}
		}
	}
	return nil
}

// alone returns a book with some of its counts alone.
func alone(b api.EveningBook, counts []int) api.EveningBook {
	o := clone(b)
	o.Counts = oracle.Picked(b.Counts, counts)
	return o
}

// clashOf returns the fewest counts that alone have no history.
func clashOf(b api.EveningBook) []int {
	for _, counts := range oracle.Subsets(len(b.Counts)) {
		if len(pasts(alone(b, counts))) == 0 {
			return counts
		}
	}
	return nil
}

// leftOf returns how many histories are left at most once it is known how much was taken at a duty.
func leftOf(b api.EveningBook, all []past, duty api.EveningTaking) int {
	return oracle.Left(all, func(p past) int { return p.ofDuty(duty.Hour, duty.Clerk) })
}

// askOf returns the duty to ask about, and how many histories are left at most.
func askOf(b api.EveningBook, all []past) (hour, clerk, left int) {
	hour, clerk, left = -1, -1, len(all)
	for _, d := range duties(b) {
		if n := leftOf(b, all, d); n < left {
			hour, clerk, left = d.Hour, d.Clerk, n
		}
	}
	return hour, clerk, left
}

// anyStaff returns some hours, of which it is not yet known what was said.
func anyStaff(d *dice.Dice, clerks int) []api.EveningHour {
	var hours []api.EveningHour
	many := 0
	for range 1 + d.Roll(api.MaxEveningHours) {
		var h api.EveningHour
		for clerk := range clerks {
			if many < api.MaxEveningDuties && d.Roll(2) == 0 {
				h.Staff = append(h.Staff, clerk)
				many++
			}
		}
		hours = append(hours, h)
	}
	return hours
}

// anyPast returns what really happened of what can have.
func anyPast(d *dice.Dice, b api.EveningBook) past {
	var p past
	for _, t := range duties(b) {
		if len(p.takings) < b.Most && b.Take > 0 && d.Roll(3) == 0 {
			p.takings = append(p.takings, taking(t.Hour, t.Clerk, 1+d.Roll(b.Take)))
		}
	}
	for i := range b.Wheels {
		if len(p.slips) < b.Slips && d.Roll(3) == 0 {
			p.slips = append(p.slips, i)
		}
	}
	return p
}

// anyEvening returns a book without counts, what really happened, and the money that really was in the drawer behind each hour.
func anyEvening(d *dice.Dice) (api.EveningBook, past, []int) {
	b := api.EveningBook{Most: d.Roll(api.MaxEveningMost + 1), Take: d.Roll(api.MaxEveningTake + 1), Slips: d.Roll(api.MaxEveningSlips + 1)}
	b.Clerks = []string{"ann", "bob", "cid"}[:d.Roll(api.MaxEveningClerks+1)]
	b.Hours = anyStaff(d, len(b.Clerks))
	for range d.Roll(api.MaxEveningWheels + 1) {
		wrong := 1 + d.Roll(6)
		if d.Roll(2) == 0 {
			wrong = -wrong
		}
		b.Wheels = append(b.Wheels, api.EveningSlip{Hour: d.Roll(len(b.Hours)), Error: wrong})
	}
	p := anyPast(d, b)
	wide := 1 + d.Roll(3)
	money := 40 + d.Roll(60)
	b.Float = d.Around(money, wide, 0, api.MaxEveningMoney)
	var behind []int
	for hour := range b.Hours {
		said := d.Roll(30)
		b.Hours[hour].Said = d.Around(said, wide, 0, api.MaxEveningMoney)
		money += said - p.lost(b, hour)
		behind = append(behind, money)
	}
	return b, p, behind
}

// anyBook returns a book without a bell, and what really happened; if lies is true, what was counted can be wrong.
func anyBook(d *dice.Dice, lies bool) (api.EveningBook, past) {
	b, p, behind := anyEvening(d)
	wide := 1 + d.Roll(2)
	for hour, money := range behind {
		if d.Roll(4) == 0 {
			continue
		}
		if lies && d.Roll(3) == 0 {
			money = max(0, money-3+d.Roll(7))
		}
		b.Counts = append(b.Counts, api.EveningCount{After: hour, Money: d.Around(money, wide, 0, api.MaxEveningMoney)})
	}
	return b, p
}
