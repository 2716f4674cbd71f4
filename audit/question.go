package audit

import (
	"sync"

	"nosale/api"
	"nosale/build"
	"nosale/change"
	"nosale/checks"
	"nosale/evening"
	"nosale/lists"
	"nosale/sales"
	"nosale/spans"
	"nosale/stock"
	"nosale/strip"
	"nosale/tag"
	"nosale/tour"
	"nosale/wheels"
)

// questionKind is a kind of questions: the part that it is about, the numbers that it uses, its answer by a file, and whether a list is a proof by itself; that is nil if there is no proof but that of the answer.
type questionKind struct {
	part, uses int
	answer     func(q question, b api.AuditBook) (answer, api.Bell)
	shows      func(q question, b api.AuditBook, proof []int) bool
}

// manyQuestions is how many kinds of questions there are.
const manyQuestions = int(api.AuditRound) + 1

// questionKinds returns all kinds of questions.
func questionKinds() [manyQuestions]questionKind {
	return [manyQuestions]questionKind{
		api.AuditSlips: {wheelsPart, usesA, question.slips, question.showSlips},
		api.AuditWhole: {stripPart, 0, question.whole, nil},
		api.AuditPlain: {tagPart, usesA | usesB, question.plain, nil},
		api.AuditFloat: {changePart, usesA, question.float, question.showFloat},
		api.AuditCheap: {buildPart, usesA, question.cheap, question.showCheap},
		api.AuditFalse: {salesPart, usesA, question.wrong, question.showWrong},
		api.AuditHands: {eveningPart, usesA, question.hands, question.showHands},
		api.AuditBlame: {stockPart, usesA, question.blame, question.showBlame},
		api.AuditRound: {tourPart, usesA, question.round, question.showRound},
	}
}

// question is a question that can have a bell.
type question struct{ api.AuditAsk }

// bell returns the bell of the question itself.
func (q question) bell() api.Bell { return checks.InTurn(q.checkKind, q.checkNumbers) }

func (q question) checkKind() api.Bell {
	if !spans.Within(int(q.Kind), 0, manyQuestions-1) {
		return api.Bound
	}
	return api.Fine
}

// checkNumbers returns the bell of the numbers that the kind of the question does not use.
func (q question) checkNumbers() api.Bell {
	if setOf(q.A != 0, q.B != 0)&^questionKinds()[q.Kind].uses != 0 {
		return api.Shape
	}
	return api.Fine
}

// answer is yes, with a proof, or no.
type answer struct {
	yes   bool
	proof []int
}

// answered returns the answer that is yes if something is so, and a bell, with which there is no answer.
func answered(yes bool, proof []int, l api.Bell) (answer, api.Bell) {
	if l != api.Fine || !yes {
		return answer{}, l
	}
	return answer{true, proof}, api.Fine
}

// ask returns the answer by a file that has no bell.
func (q question) ask(b api.AuditBook) (a answer, l api.Bell) {
	if l := q.bell(); l != api.Fine {
		return answer{}, l
	}
	return questionKinds()[q.Kind].answer(q, b)
}

func (q question) slips(b api.AuditBook) (answer, api.Bell) {
	slips, l := wheels.Fewest(b.Wheels)
	var proof []int
	for _, s := range slips {
		proof = append(proof, s.Ring, s.Wheel)
	}
	return answered(len(slips) <= q.A, proof, l)
}

func (q question) whole(b api.AuditBook) (answer, api.Bell) {
	sold, found, l := strip.Whole(b.Strip)
	var proof []int
	for _, s := range sold {
		proof = append(proof, s.Article)
	}
	return answered(found, proof, l)
}

func (q question) plain(b api.AuditBook) (answer, api.Bell) {
	is, l := tag.Plain(b.House, q.A, q.B)
	return answered(is, nil, l)
}

func (q question) float(b api.AuditBook) (answer, api.Bell) {
	more, found, l := change.Float(b.Drawer)
	return answered(found && sum(more) <= q.A, more, l)
}

func (q question) cheap(b api.AuditBook) (answer, api.Bell) {
	machine, cost, l := build.Cheapest(b.Works)
	if l == api.Short {
		return answer{}, api.Fine
	}
	return answered(cost <= q.A, machine, l)
}

func (q question) wrong(b api.AuditBook) (answer, api.Bell) {
	sums, l := sales.Fewest(b.Day)
	return answered(len(sums) <= q.A, sums, l)
}

func (q question) hands(b api.AuditBook) (answer, api.Bell) {
	clerks, l := evening.Hands(b.Evening)
	return answered(len(clerks) <= q.A, clerks, l)
}

func (q question) blame(b api.AuditBook) (answer, api.Bell) {
	notes, l := stock.Blame(b.Stock)
	return answered(len(notes) <= q.A, notes, l)
}

func (q question) round(b api.AuditBook) (answer, api.Bell) {
	round, _, l := tour.Best(b.Tour)
	return answered(len(round) >= q.A, round, l)
}

// verify returns whether a list proves that the answer by a file without a bell is yes; there is no proof of what is no.
func (q question) verify(b api.AuditBook, proof []int) (bool, api.Bell) {
	a, l := q.ask(b)
	if l != api.Fine || !a.yes {
		return false, l
	}
	shows := questionKinds()[q.Kind].shows
	if shows == nil {
		return lists.Same(a.proof, proof), api.Fine
	}
	return shows(q, b, proof), api.Fine
}

// asked is a question, and the text of the part that it is about: its answer depends on nothing else.
type asked struct {
	api.AuditAsk
	text string
}

// reply is what is answered, without a proof.
type reply struct {
	yes  bool
	bell api.Bell
}

// asked returns the question about a file.
func (q question) asked(b api.AuditBook) asked {
	about := parts()[questionKinds()[q.Kind].part]
	return asked{q.AuditAsk, about.text(&b)}
}

// replies returns what a question that has no bell is answered by each of some files. It is asked once about parts that are equal.
func (q question) replies(files []api.AuditBook) []reply {
	unlike := map[asked]api.AuditBook{}
	for _, b := range files {
		unlike[q.asked(b)] = b
	}
	known := q.known(unlike)
	var all []reply
	for _, b := range files {
		all = append(all, known[q.asked(b)])
	}
	return all
}

// known returns what the question is answered by files of which the part that it is about is unlike.
func (q question) known(unlike map[asked]api.AuditBook) map[asked]reply {
	known := map[asked]reply{}
	var lock sync.Mutex
	var wait sync.WaitGroup
	for about, b := range unlike {
		wait.Add(1)
		go func() {
			defer wait.Done()
			a, l := q.ask(b)
			lock.Lock()
			defer lock.Unlock()
			known[about] = reply{a.yes, l}
		}()
	}
	wait.Wait()
	return known
}
