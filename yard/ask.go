package yard

import (
	"slices"

	"ribband/api"
	"ribband/batten"
	"ribband/bevel"
	"ribband/butt"
	"ribband/frame"
	"ribband/mould"
	"ribband/offsets"
	"ribband/spile"
	"ribband/steam"
	"ribband/terms"
)

// question is a kind of questions: its word, how it is answered, and whether a list shows that the answer is yes.
type question struct {
	word   string
	answer func(c checked, a int) (yes bool, proof []int, s api.Snag)
	shows  func(c checked, a int, list []int) bool
}

// questions are all kinds of questions, by their numbers.
func questions() []question {
	return []question{
		api.YardWrong:    {"wrong", checked.answerWrong, checked.showsWrong},
		api.YardStraight: {"straight", checked.answerStraight, checked.showsStraight},
		api.YardLean:     {"lean", checked.answerLean, checked.showsLean},
		api.YardCut:      {"cut", checked.answerCut, checked.showsCut},
		api.YardPlanked:  {"planked", checked.answerPlanked, checked.showsPlanked},
		api.YardShift:    {"shift", checked.answerShift, checked.showsShift},
		api.YardRead:     {"read", checked.answerRead, checked.showsRead},
		api.YardHands:    {"hands", checked.answerHands, checked.showsHands},
		api.YardSettled:  {"settled", checked.answerSettled, checked.showsSettled},
	}
}

// ask returns the answer to a question, and its proof if it is yes.
func (c checked) ask(q api.YardAsk) (yes bool, proof []int, s api.Snag) {
	all := questions()
	if !terms.IsIndex(int(q.Kind), len(all)) {
		return false, nil, api.Range
	}
	yes, proof, s = all[q.Kind].answer(c, q.A)
	if s != api.Clear || !yes {
		return false, nil, s
	}
	return true, proof, api.Clear
}

// judge returns whether a proof shows that the answer to a question is yes.
func (c checked) judge(q api.YardAsk, proof []int) (bool, api.Snag) {
	if _, _, s := c.ask(q); s != api.Clear {
		return false, s
	}
	return questions()[q.Kind].shows(c, q.A, proof), api.Clear
}

func (c checked) answerWrong(most int) (bool, []int, api.Snag) {
	cells, s := offsets.Fewest(c.Table)
	return len(cells) <= most, cells, s
}

func (c checked) answerStraight(most int) (bool, []int, api.Snag) {
	line, strain, s := batten.Straightest(c.Line)
	return strain <= most, line, s
}

func (c checked) answerLean(most int) (bool, []int, api.Snag) {
	breadths, area, s := frame.Leanest(c.Frame)
	return area <= most, breadths, s
}

func (c checked) answerCut(most int) (bool, []int, api.Snag) {
	cuts, boards, found, s := mould.Fewest(c.Mould)
	return found && boards <= most, joined(cutNumbers, cuts...), s
}

func (c checked) answerPlanked(most int) (bool, []int, api.Snag) {
	layout, planks, found, s := butt.Fewest(c.Butts)
	return found && planks <= most, joined(strakeNumbers, layout...), s
}

func (c checked) answerShift(none int) (bool, []int, api.Snag) {
	if none != 0 {
		return false, nil, api.Form
	}
	shift, found, s := spile.Surely(c.Spile)
	return found, []int{shift}, s
}

func (c checked) answerRead(most int) (bool, []int, api.Snag) {
	readings, s := bevel.Fewest(c.Bevel)
	return len(readings) <= most, readings, s
}

func (c checked) answerHands(most int) (bool, []int, api.Snag) {
	hands, found, s := steam.Fewest(c.Steam)
	if s != api.Clear || !found || hands > most {
		return false, nil, s
	}
	plan, _, _, s := steam.Soonest(withHands(c.Steam, hands))
	return true, append([]int{hands}, plan...), s
}

func withHands(b api.SteamBook, hands int) api.SteamBook {
	b.Hands = hands
	return b
}

func (c checked) answerSettled(part int) (bool, []int, api.Snag) {
	if !terms.IsIndex(part, manyChapters) {
		return false, nil, api.Absent
	}
	return c.counts().isSettled(part), nil, api.Clear
}

// joined returns the numbers of all things in one list.
func joined[T any](numbers func(T) []int, things ...T) []int {
	var list []int
	for _, x := range things {
		list = append(list, numbers(x)...)
	}
	return list
}

func cutNumbers(x api.MouldCut) []int { return []int{x.Board, x.From} }

// strakeNumbers returns the butts of a strake, and a 0 behind them, on which no butt is.
func strakeNumbers(butts []int) []int { return slices.Concat(butts, []int{0}) }
