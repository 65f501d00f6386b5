package yard

import (
	"ribband/api"
	"ribband/terms"
)

const billWord = "bill"

// bills are the part of a book that has no boats.
type bills []api.YardBill

func (l bills) name() string { return billWord }

func (l bills) snag() api.Snag {
	if len(l) > api.MaxYardBills {
		return api.Many
	}
	return terms.EachSnag(len(l), l.billSnag)
}

func (l bills) billSnag(i int) api.Snag {
	switch {
	case !terms.IsIndex(l[i].Part, manyChapters):
		return api.Absent
	case terms.IsOut(l[i].Price, api.MaxYardPrice) || terms.IsOut(l[i].Paid, l[i].Price):
		return api.Range
	}
	return api.Clear
}

func (l bills) text() string {
	var lines [][]string
	for _, x := range l {
		lines = append(lines, terms.Words(billWord, x.Part, x.Price, x.Paid))
	}
	return terms.Text(lines)
}

func (l bills) read(text string) (part, int, api.Snag) {
	return terms.Parse(text, readBills, bills.snag)
}

func readBills(text string) bills {
	var l bills
	for i, s := range terms.Lines(text) {
		l = append(l, readBill(terms.LineOf(i+1, s)))
	}
	return l
}

func readBill(l terms.Line) api.YardBill {
	if !l.Is(billWord, 3) {
		panic(l.Bad())
	}
	return api.YardBill{Part: l.Number(1), Price: l.Number(2), Paid: l.Number(3)}
}
