package yard

import (
	"slices"
	"strconv"
	"strings"

	"ribband/api"
	"ribband/terms"
)

const (
	askWord   = "ask"
	judgeWord = "judge"
	doneWord  = "done"
	yesWord   = "yes"
	noWord    = "no"
	rightWord = "right"
	wrongWord = "wrong"
	snagWord  = "snag"
)

// order is a line for a clerk, and what the answer to it is.
type order interface {
	answer(j *journal) ([]string, api.Snag)
}

type (
	entryOrder struct{ entry api.YardEntry }
	askOrder   struct{ ask api.YardAsk }
	judgeOrder struct {
		ask   api.YardAsk
		proof []int
	}
)

func (o entryOrder) answer(j *journal) ([]string, api.Snag) {
	s := j.write(o.entry)
	return terms.Words(doneWord, len(j.stands())), s
}

func (o askOrder) answer(j *journal) ([]string, api.Snag) {
	yes, proof, s := j.ask(o.ask)
	if !yes {
		return []string{noWord}, s
	}
	return []string{yesWord, terms.ListText(proof, strconv.Itoa)}, s
}

func (o judgeOrder) answer(j *journal) ([]string, api.Snag) {
	right, s := j.judge(o.ask, o.proof)
	if !right {
		return []string{wrongWord}, s
	}
	return []string{rightWord}, s
}

func readOrder(s string) order {
	return terms.Known(terms.LineOf(1, s), []terms.LineKind[order]{
		{Word: entryWord, Fields: entryFields, Read: func(l terms.Line) order { return entryOrder{readEntry(l)} }},
		{Word: askWord, Fields: 2, Read: func(l terms.Line) order { return askOrder{readAsk(l)} }},
		{Word: judgeWord, Fields: 3, Read: func(l terms.Line) order { return judgeOrder{readAsk(l), l.Numbers(3)} }},
	})
}

// readAsk reads the first two fields of a line, which are a question.
func readAsk(l terms.Line) api.YardAsk {
	kind := slices.IndexFunc(questions(), func(q question) bool { return q.word == l.Word(1) })
	if kind < 0 {
		panic(l.Bad())
	}
	return api.YardAsk{Kind: api.YardQuestion(kind), A: l.Number(2)}
}

// work does what a text orders, and returns the answers.
func (j *journal) work(text string) string {
	var out strings.Builder
	say := func(words []string, s api.Snag) {
		if s != api.Clear {
			words = terms.Words(snagWord, int(s))
		}
		out.WriteString(terms.Text([][]string{words}))
	}
	for _, line := range terms.Lines(text) {
		o, err := terms.Try(line, readOrder)
		if err != nil {
			say(nil, api.Form)
			continue
		}
		say(o.answer(j))
	}
	return out.String()
}
