package audit_test

import (
	"fmt"
	"slices"
	"strconv"
	"strings"
	"testing"

	"nosale/api"
	"nosale/audit"
	"nosale/build"
	"nosale/change"
	"nosale/dice"
	"nosale/sales"
	"nosale/stock"
	"nosale/strip"
	"nosale/tag"
	"nosale/tour"
	"nosale/wheels"
)

// shop is a file whose parts tell about the same day: what is told by one part becomes entries of others. What really happened stays a history of each part.
type shop struct {
	t *testing.T
	b api.AuditBook
	truth
	prices []int // of the articles; those of the truth are of the tags
}

// learn does an entry that follows from what other parts tell, and tells whether the file is another one then.
func (x *shop) learn(e api.AuditEntry, l api.Bell) bool {
	x.t.Helper()
	if l != api.Fine {
		x.t.Fatalf("%+v: bell %d", x.b, l)
	}
	next, l := audit.Do(x.b, e)
	switch l {
	case api.Fine:
	case api.Count, api.Twice:
		return false // there is no room for more, or it is known
	default:
		x.t.Fatalf("%+v, %+v: %+v cannot be so, bell %d", x.b, x.truth, e, l)
	}
	differ, l := audit.Differ(x.b, next)
	for part := range manyParts {
		if !x.isHistory(x.t, next, part) || l != api.Fine {
			x.t.Fatalf("%+v: %+v is no history of the part %d behind %+v, bell %d", next, x.truth, part, e, l)
		}
	}
	x.b = next
	return len(differ) > 0
}

// total is what was really sold.
func (x *shop) total() int {
	sum := 0
	for _, s := range x.sold {
		sum += x.prices[s.Article]
	}
	return sum
}

// hull returns the span from the least to the greatest of some numbers.
func hull(list []int) api.Span { return to(slices.Min(list), slices.Max(list)) }

// anyShop returns a file of a day on which three articles were sold to three people. The strip was printed, but not all of it can be read; slips were written by hand; the goods are what is left of ten of each; the counter of the wheels showed the total in the end, and 111 was rung behind it; the register said what was taken in; and tags tell the prices. A tram, which is a machine of the works, goes to the next place.
func anyShop(d *dice.Dice, t *testing.T) shop {
	t.Helper()
	x := shop{t: t, b: file(t)}
	for _, i := range d.Shuffled(3) {
		x.prices = append(x.prices, 11+20*i+d.Roll(19))
	}
	for range 3 {
		x.sold = append(x.sold, api.StripSale{Article: d.Roll(3), Clerk: d.Roll(2)})
	}
	x.print(d)
	x.write(d)
	x.deliver(d)
	x.drawMoney(d)
	// the counter: its digits in the end are not known, but for the last one
	sum := x.total()
	x.b.Wheels = api.WheelsBook{Wheels: []api.WheelsWheel{{Base: 10}, {Base: 10}, {Base: 10}}, Start: []int{sum % 10, -1, -1}, Rings: []api.WheelsRing{{Keys: []int{1, 1, 1}}}}
	if d.Roll(2) == 0 {
		x.b.Wheels.Start[0] = -1
		x.b.Wheels.Start[1] = sum / 10 % 10
	}
	x.shown = [][]int{{sum % 10, sum / 10 % 10, sum / 100}, digitsOf(sum + 111)}
	x.hangTags(d)
	// the tram has two parts, and takes as long as both
	ticks := []int{1 + d.Roll(4), 1 + d.Roll(4)}
	x.times, x.ways, x.works = ticks, []int{total(ticks)}, nil
	x.b.Works = api.BuildBook{Beat: 9, Places: 2}
	for i, n := range ticks {
		x.b.Works.Parts = append(x.b.Works.Parts, api.BuildPart{Name: []string{"cam", "gear"}[i], Stock: 1, Time: d.Around(n, 3, 0, 9), Fits: []int{i}})
	}
	x.b.Tour = api.TourBook{Places: []string{"works", "ayr"}, Ways: []api.TourWay{{B: 1, Time: d.Around(total(ticks), api.MaxTourWide, 0, 20)}}}
	return x
}

// digitsOf returns the digits of a number below 1000, the lowest one first.
func digitsOf(n int) []int { return []int{n % 10, n / 10 % 10, n / 100 % 10} }

// print prints the strip.
func (x *shop) print(d *dice.Dice) {
	b := api.StripBook{Last: 99, First: 1, Digits: 3, Clerks: 2}
	for _, n := range x.prices {
		b.Articles = append(b.Articles, api.StripArticle{Dept: 1, Price: n})
	}
	sum := 0
	for i, s := range x.sold {
		sum += x.prices[s.Article]
		texts := []string{fmt.Sprintf("%02d", i+1), fmt.Sprintf("%03d", x.prices[s.Article]), fmt.Sprintf("%03d", sum)}
		for i, text := range texts {
			for at := range text {
				if d.Roll(8) > 0 {
					texts[i] = texts[i][:at] + "?" + texts[i][at+1:]
				}
			}
		}
		e := api.StripItem{Number: texts[0], Amount: texts[1], Total: texts[2], Dept: 1, Clerk: s.Clerk}
		b.Items = append(b.Items, e)
	}
	x.b.Strip = b
}

// write writes the slips.
func (x *shop) write(d *dice.Dice) {
	x.b.Day = api.SalesBook{}
	for _, s := range x.sold {
		n := x.prices[s.Article]
		x.written = append(x.written, n)
		x.b.Day.Slips = append(x.b.Day.Slips, api.SalesSlip{Dept: 1, Clerk: s.Clerk, For: -1, Amount: d.Around(n, api.MaxSalesWide, 0, 99)})
	}
}

// deliver has goods for each article, some of which were sold.
func (x *shop) deliver(d *dice.Dice) {
	x.b.Stock = api.StockBook{Days: 1}
	for i := range x.prices {
		n := x.counted(x.b.Strip, api.StripSold, i)
		x.first, x.moves = append(x.first, 10), append(x.moves, n)
		x.b.Stock.Goods = append(x.b.Stock.Goods, api.StockGood{Name: "good" + strconv.Itoa(i), Cost: x.prices[i], Pack: 1, First: one(10)})
		x.b.Stock.Moves = append(x.b.Stock.Moves, api.StockMove{Kind: api.StockSold, Good: i, Day: 1, Many: d.Around(n, api.MaxStockWide, 0, 5)})
	}
}

// drawMoney has a drawer whose coins at first are not all known, and what the register said of the hour.
func (x *shop) drawMoney(d *dice.Dice) {
	x.b.Drawer = api.ChangeBook{Kinds: []int{50, 10, 1}}
	for _, value := range x.b.Drawer.Kinds {
		n := d.Roll(5)
		x.drawer, x.float = append(x.drawer, n), x.float+n*value
		x.b.Drawer.Drawer = append(x.b.Drawer.Drawer, d.Around(n, api.MaxChangeWide, 0, 9))
	}
	said := x.total()
	x.said = []int{said}
	x.b.Evening = api.EveningBook{Float: to(0, 999), Clerks: []string{"ann", "bob"}, Hours: []api.EveningHour{{Said: d.Around(said, 30, 0, 999), Staff: []int{0, 1}}}}
}

// hangTags hangs the tags of the articles, in letters of a house two of which are not known; some cannot be read.
func (x *shop) hangTags(d *dice.Dice) {
	x.b.House = api.TagHouse{Letters: "MAKEPROF??", Spare: "IT", Repeat: "X", Alike: []string{"EF", "AM"}}
	letters := []byte("TMAKEPROFI") // of the digits from 0 on
	if d.Roll(2) == 0 {
		letters[0], letters[9] = letters[9], letters[0]
	}
	x.word, x.truth.prices = strings.Split(string(letters), ""), nil
	for _, n := range x.prices {
		reads := []byte{letters[n/10], letters[n%10]}
		if n/10 == n%10 {
			reads[1] = 'X'
		}
		if d.Roll(3) == 0 {
			reads[d.Roll(2)] = '?'
		}
		x.truth.prices = append(x.truth.prices, n)
		x.b.House.Tags = append(x.b.House.Tags, api.TagTag{Reads: string(reads), Price: d.Around(n, 40, 0, 99)})
	}
}

// tells returns what the parts of a shop tell each other; each tells whether the file is another one then.
func (x *shop) tells() map[string]func() bool {
	return map[string]func() bool{
		"strip to wheels":   x.stripToWheels,
		"wheels to strip":   x.wheelsToStrip,
		"strip to stock":    func() bool { return x.each(x.stripToStock) },
		"stock to strip":    func() bool { return x.each(x.stockToStrip) },
		"sales to strip":    x.salesToStrip,
		"strip to sales":    func() bool { return x.each(x.stripToSales) },
		"strip to tag":      func() bool { return x.each(x.stripToTag) },
		"tag to tag":        x.tagToTag,
		"change to evening": x.changeToEvening,
		"build to tour":     x.buildToTour,
		"tour to build":     func() bool { return x.tourToBuild(0) || x.tourToBuild(1) },
	}
}

// each tells something of three things.
func (x *shop) each(tell func(i int) bool) bool {
	found := false
	for i := range 3 {
		found = tell(i) || found
	}
	return found
}

// stripToWheels: what the strip can end with was shown before 111 was rung, as far as all totals have the same digits.
func (x *shop) stripToWheels() bool {
	totals, l := strip.Totals(x.b.Strip)
	read := digitsOf(totals[0] + 111)
	for _, n := range totals {
		for i, digit := range digitsOf(n + 111) {
			if digit != read[i] {
				read[i] = -1
			}
		}
	}
	return slices.Max(read) >= 0 && x.learn(ring(0, read...), l)
}

// wheelsToStrip: the wheels showed what was sold.
func (x *shop) wheelsToStrip() bool {
	shows, l := wheels.Shows(x.b.Wheels, 0)
	s := hull(shows)
	return x.learn(entry(api.AuditStrip, int(api.StripTook), 1, s.Low, s.High), l)
}

// stripToStock: of a good so many are left as were not sold.
func (x *shop) stripToStock(i int) bool {
	var can []int
	for n := range 4 {
		if _, l := strip.Note(x.b.Strip, api.StripCount{Kind: api.StripSold, A: i, Many: one(n)}); l == api.Fine {
			can = append(can, 10-n)
		}
	}
	// with four counts of its own a strip tells nothing more
	if len(can) == 0 {
		return false
	}
	s := hull(can)
	before, l := stock.Numbers(x.b.Stock, i)
	more := x.learn(entry(api.AuditGoods, i, 1, s.Low, s.High), l)
	behind, l := stock.Numbers(x.b.Stock, i)
	return more && len(behind) < len(before) && l == api.Fine
}

// stockToStrip: so many of an article were sold as are missing.
func (x *shop) stockToStrip(i int) bool {
	sold, l := stock.Numbers(x.b.Stock, i)
	s := hull(sold)
	before, _ := strip.Histories(x.b.Strip)
	more := x.learn(entry(api.AuditStrip, int(api.StripSold), i, s.Low, s.High), l)
	behind, _ := strip.Histories(x.b.Strip)
	return more && behind < before
}

// salesToStrip: the slips tell what the department took.
func (x *shop) salesToStrip() bool {
	s, l := sales.Sum(x.b.Day, api.SalesDept, 1)
	before, _ := strip.Histories(x.b.Strip)
	more := x.learn(entry(api.AuditStrip, int(api.StripTook), 1, s.Low, s.High), l)
	behind, _ := strip.Histories(x.b.Strip)
	return more && behind < before
}

// stripToSales: a slip says what an article costs, once it is known which one it was.
func (x *shop) stripToSales(i int) bool {
	articles, l := strip.Articles(x.b.Strip, i)
	if len(articles) > 1 {
		return false
	}
	n := x.prices[articles[0]]
	return x.learn(entry(api.AuditFix, i, x.sold[i].Clerk, n, n), l)
}

// stripToTag: the strip says what each article costs; somebody looks at a tag by and by.
func (x *shop) stripToTag(i int) bool {
	articles, l := strip.Articles(x.b.Strip, i)
	if len(articles) > 1 {
		return false
	}
	n := x.prices[articles[0]]
	return x.learn(entry(api.AuditPrice, articles[0], 0, n, n), l)
}

// tagToTag: the tag of an article hangs there once more, and can be read.
func (x *shop) tagToTag() bool {
	texts, l := tag.Writes(x.b.House, x.prices[0], 2)
	if len(texts) > 1 {
		return false
	}
	return x.learn(hang(texts[0], x.prices[0], x.prices[0]), l)
}

// changeToEvening: the money behind the hour is that of the drawer, and what was sold.
func (x *shop) changeToEvening() bool {
	var money api.Span
	for kind, value := range x.b.Drawer.Kinds {
		had, l := change.Had(x.b.Drawer, kind)
		if l != api.Fine {
			x.t.Fatal(l)
		}
		s := hull(had)
		money = to(money.Low+s.Low*value, money.High+s.High*value)
	}
	sold, l := strip.Took(x.b.Strip, 1)
	return x.learn(entry(api.AuditMoney, 0, 0, money.Low+sold.Low, money.High+sold.High), l)
}

// buildToTour: the way takes as long as the tram.
func (x *shop) buildToTour() bool {
	s, l := build.Turns(x.b.Works, []int{0, 1})
	return x.learn(entry(api.AuditWay, 0, 0, s.Low, s.High), l)
}

// tourToBuild: a part takes as long as the way, less the other part.
func (x *shop) tourToBuild(part int) bool {
	far, l := tour.Far(x.b.Tour, 0, 1)
	times, l2 := build.Times(x.b.Works, 1-part)
	other := hull(times)
	return x.learn(entry(api.AuditTicks, part, 0, max(0, far.Low-other.High), far.High-other.Low), l+l2)
}

// P0.4, P0.5, P0.6: what the parts of a file tell about the same day can be so together, and each finds what others leave open.
func TestPartsTellEachOther(t *testing.T) {
	d := dice.Dice(20)
	told, whole := map[string]int{}, 0
	for range 150 {
		x := anyShop(&d, t)
		if l := audit.Check(x.b); l != api.Fine {
			t.Fatalf("%+v: bell %d", x.b, l)
		}
		for part := range manyParts {
			if !x.isHistory(t, x.b, part) {
				t.Fatalf("%+v: %+v is no history of the part %d", x.b, x.truth, part)
			}
		}
		before, _, _ := audit.Ask(x.b, ask(api.AuditWhole))
		var names []string
		tells := x.tells()
		for name := range tells {
			names = append(names, name)
		}
		slices.Sort(names)
		for range 2 {
			for _, i := range d.Shuffled(len(names)) {
				if tells[names[i]]() {
					told[names[i]]++
				}
			}
		}
		is, proof, l := audit.Ask(x.b, ask(api.AuditWhole))
		isSold := slices.EqualFunc(proof, x.sold, func(a int, s api.StripSale) bool { return a == s.Article })
		if is && !isSold || before && !is || l != api.Fine {
			t.Errorf("%+v: %v was sold, not %+v, bell %d", x.b, proof, x.sold, l)
		}
		if is && !before {
			whole++
		}
	}
	for name := range (&shop{}).tells() {
		if told[name] < 15 {
			t.Errorf("%s told only %d times something new", name, told[name])
		}
	}
	if whole < 30 {
		t.Errorf("only %d times it became certain what was sold", whole)
	}
}

// P0.4: all that is learnt is kept in one journal, which leads to the same file.
func TestOneJournal(t *testing.T) {
	d := dice.Dice(21)
	for range 60 {
		x := anyShop(&d, t)
		first := x.b
		sum := x.total()
		entries := journal(
			ring(0, digitsOf(sum+111)...), entry(api.AuditStrip, int(api.StripTook), 1, sum, sum), entry(api.AuditGoods, 0, 1, 10-x.moves[0], 10-x.moves[0]),
			entry(api.AuditMoney, 0, 0, x.float+sum, x.float+sum), entry(api.AuditCoins, 1, 0, x.drawer[1], x.drawer[1]), entry(api.AuditPrice, 2, 0, x.prices[2], x.prices[2]),
			entry(api.AuditFix, 0, x.sold[0].Clerk, x.written[0], x.written[0]), entry(api.AuditTicks, 0, 0, x.times[0], x.times[0]), entry(api.AuditWay, 0, 0, x.ways[0], x.ways[0]),
			entry(api.AuditClear, 0, 1, 0, 0),
		)
		for _, e := range entries {
			x.learn(e, api.Fine)
		}
		text := kept(t, first, entries)
		line, fault, now, l := audit.Inspect(first, text)
		if differ, l2 := audit.Differ(now, x.b); line != 0 || fault != api.AuditRight || len(differ) > 0 || l+l2 != api.Fine {
			t.Errorf("%q: line %d, fault %d, the parts %v differ, bells %d, %d", text, line, fault, differ, l, l2)
		}
		if bells, _, _ := audit.Play(first, entries); slices.ContainsFunc(bells, func(l api.Bell) bool { return l != api.Fine }) {
			t.Errorf("%+v: %v", entries, bells)
		}
	}
}
