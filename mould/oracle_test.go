package mould_test

import (
	"fmt"
	"math/rand"
	"slices"
	"testing"

	"ribband/api"
	"ribband/mould"
)

// The examples of the chapter.
const (
	piecesM = "mould 1\npiece keel 4..5 0\npiece rib 3 1\npiece arm 2..3 0\n"
	boardsM = "board elm 8 3\nboard oak 6 none\n"
	headM   = piecesM + boardsM
	textM   = headM + "tape 0+2 7\n"
	textC   = textM + "tape 0 4\ntape 2 2\n"
)

const (
	most  = int(^uint(0) >> 1)
	least = -most - 1
)

func to(a, b int) api.Span { return api.Span{Low: a, High: b} }

func one(n int) api.Span { return to(n, n) }

// cuts are cuts: a board and a place each.
func cuts(list ...int) (all []api.MouldCut) {
	for i := 0; i < len(list); i += 2 {
		all = append(all, api.MouldCut{Board: list[i], From: list[i+1]})
	}
	return all
}

func cutX() []api.MouldCut { return cuts(1, 0, 0, 0, 0, 4) }

func cutY() []api.MouldCut { return cuts(1, 0, 0, 0, 0, 6) }

func parse(t *testing.T, text string) api.MouldBook {
	t.Helper()
	b, line, s := mould.Parse(text)
	if s != api.Clear {
		t.Fatal(text, line, s)
	}
	return b
}

func printed(t *testing.T, b api.MouldBook) string {
	t.Helper()
	text, s := mould.Print(b)
	if s != api.Clear {
		t.Fatal(b, s)
	}
	return text
}

func clone(b api.MouldBook) api.MouldBook {
	b.Pieces = slices.Clone(b.Pieces)
	b.Boards = slices.Clone(b.Boards)
	for i := range b.Boards {
		b.Boards[i].Knots = slices.Clone(b.Boards[i].Knots)
	}
	b.Tapes = slices.Clone(b.Tapes)
	for i := range b.Tapes {
		b.Tapes[i].Pieces = slices.Clone(b.Tapes[i].Pieces)
	}
	return b
}

const noKnot = -1

// drawn tells for each place of a board which knot takes it.
func drawn(w api.MouldBoard) []int {
	list := slices.Repeat([]int{noKnot}, w.Long)
	for k, knot := range w.Knots {
		for place := range list {
			if knot.Low <= place && place <= knot.High {
				list[place] = k
			}
		}
	}
	return list
}

// met returns how many knots a piece meets, which is to lie on its board.
func met(w api.MouldBoard, from, long int) int {
	seen := 0
	for k := range w.Knots {
		if slices.Contains(drawn(w)[from:from+long], k) {
			seen++
		}
	}
	return seen
}

func clearSpans(w api.MouldBoard) (list []api.Span) {
	d := append(drawn(w), 0)
	for from := range w.Long {
		if d[from] != noKnot || from > 0 && d[from-1] == noKnot {
			continue
		}
		end := from
		for d[end+1] == noKnot {
			end++
		}
		list = append(list, to(from, end))
	}
	return list
}

// longest tries the greatest lengths first.
func longest(w api.MouldBoard, bears int) int {
	for long := w.Long; long > 0; long-- {
		for from := 0; from+long <= w.Long; from++ {
			if met(w, from, long) <= bears {
				return long
			}
		}
	}
	return 0
}

// does draws the pieces on each board, and looks at what is left between them.
func does(b api.MouldBook, l []int, x []api.MouldCut) bool {
	for i, cut := range x {
		w := b.Boards[cut.Board]
		if cut.From+l[i] > w.Long {
			return false
		}
		if len(w.Knots) > 0 && met(w, cut.From, l[i]) > b.Pieces[i].Bears {
			return false
		}
	}
	for board, w := range b.Boards {
		piece := [api.MaxMouldLong]int{}
		for i, cut := range x {
			for place := cut.From; cut.Board == board && place < cut.From+l[i]; place++ {
				if piece[place] > 0 {
					return false
				}
				piece[place] = i + 1
			}
		}
		last, free := 0, 0
		for _, p := range piece[:w.Long] {
			switch {
			case p == 0:
				free++
				continue
			case last > 0 && p != last && free < b.Saw:
				return false
			}
			last, free = p, 0
		}
	}
	return true
}

func agrees(b api.MouldBook, l []int) bool {
	for _, t := range b.Tapes {
		sum := 0
		for i, n := range l {
			if slices.Contains(t.Pieces, i) {
				sum += n
			}
		}
		if sum < t.Sum.Low || sum > t.Sum.High {
			return false
		}
	}
	return true
}

// oracle finds everything about a book by going through all lengths of its pieces, and all cuttings.
type oracle struct {
	book  api.MouldBook
	ways  [][]int // lengths of the spans, ascending
	boats [][]int
	sure  [][]api.MouldCut // the cuttings that surely do, ascending; of a book with a boat
}

func newOracle(b api.MouldBook) *oracle {
	o := &oracle{book: b, ways: waysOf(b)}
	for _, l := range o.ways {
		if agrees(b, l) {
			o.boats = append(o.boats, l)
		}
	}
	if len(o.boats) == 0 {
		return o
	}
	eachCutting(b, func(x []api.MouldCut) {
		if !slices.ContainsFunc(o.boats, func(l []int) bool { return !does(b, l, x) }) {
			o.sure = append(o.sure, slices.Clone(x))
		}
	})
	return o
}

func waysOf(b api.MouldBook) [][]int {
	ways := [][]int{nil}
	for _, p := range b.Pieces {
		var longer [][]int
		for _, l := range ways {
			for n := p.Length.Low; n <= p.Length.High; n++ {
				longer = append(longer, append(slices.Clone(l), n))
			}
		}
		ways = longer
	}
	return ways
}

// eachCutting tries all cuttings whose pieces begin on their boards, the least one first.
func eachCutting(b api.MouldBook, try func(x []api.MouldCut)) {
	var all []api.MouldCut
	for board, w := range b.Boards {
		for from := range w.Long {
			all = append(all, api.MouldCut{Board: board, From: from})
		}
	}
	x := make([]api.MouldCut, len(b.Pieces))
	many := 1
	for range x {
		many *= len(all)
	}
	for n := range many {
		for i := len(x) - 1; i >= 0; i-- {
			x[i] = all[n%len(all)]
			n /= len(all)
		}
		try(x)
	}
}

// snag is what functions return that need a boat.
func (o *oracle) snag() api.Snag {
	if len(o.boats) == 0 {
		return api.Foul
	}
	return api.Clear
}

func (o *oracle) has(l []int) bool {
	return slices.ContainsFunc(o.boats, func(x []int) bool { return slices.Equal(x, l) })
}

func (o *oracle) count(piece, long int) int {
	n := 0
	for _, l := range o.boats {
		if l[piece] == long {
			n++
		}
	}
	return n
}

func (o *oracle) lengths(piece int) (list []int) {
	for n := range api.MaxMouldLong + 1 {
		if o.count(piece, n) > 0 {
			list = append(list, n)
		}
	}
	return list
}

func sum(l []int) int {
	n := 0
	for _, x := range l {
		n += x
	}
	return n
}

func (o *oracle) total() api.Span {
	var sums []int
	for _, l := range o.boats {
		sums = append(sums, sum(l))
	}
	if len(sums) == 0 {
		return api.Span{}
	}
	return to(slices.Min(sums), slices.Max(sums))
}

func (o *oracle) does(x []api.MouldCut) api.Sure {
	yes := 0
	for _, l := range o.boats {
		if does(o.book, l, x) {
			yes++
		}
	}
	switch {
	case len(o.boats) == 0:
		return api.Open
	case yes == len(o.boats):
		return api.Yes
	case yes == 0:
		return api.No
	}
	return api.Open
}

// spare asks of each place at the end of a board whether a piece is there, or behind it, in a boat.
func (o *oracle) spare(x []api.MouldCut) (list []int) {
	for board, w := range o.book.Boards {
		free := 0
		for place := w.Long - 1; place >= 0; place-- {
			if slices.ContainsFunc(o.boats, func(l []int) bool {
				for i, cut := range x {
					if cut.Board == board && place < cut.From+l[i] {
						return true
					}
				}
				return false
			}) {
				break
			}
			free++
		}
		list = append(list, free)
	}
	return list
}

func takes(x []api.MouldCut, board int) bool {
	return slices.ContainsFunc(x, func(cut api.MouldCut) bool { return cut.Board == board })
}

func boardsOf(b api.MouldBook, x []api.MouldCut) (many, long int) {
	for board, w := range b.Boards {
		if takes(x, board) {
			many++
			long += w.Long
		}
	}
	return many, long
}

// best returns the first cutting that surely does of which no other one has less of something.
func (o *oracle) best(of func(x []api.MouldCut) int) (x []api.MouldCut, much int) {
	for _, y := range o.sure {
		if n := of(y); x == nil || n < much {
			x, much = y, n
		}
	}
	return x, much
}

func (o *oracle) fewest() (x []api.MouldCut, many int) {
	return o.best(func(x []api.MouldCut) int { many, _ := boardsOf(o.book, x); return many })
}

func (o *oracle) shortest() (x []api.MouldCut, long int) {
	return o.best(func(x []api.MouldCut) int { _, long := boardsOf(o.book, x); return long })
}

func (o *oracle) needed() (list []int) {
	for board := range o.book.Boards {
		if len(o.boats) > 0 && !slices.ContainsFunc(o.sure, func(x []api.MouldCut) bool { return !takes(x, board) }) {
			list = append(list, board)
		}
	}
	return list
}

// only returns a book with the tapes of a set of numbers, and the list of these.
func only(b api.MouldBook, set int) (api.MouldBook, []int) {
	var list []int
	x := b
	x.Tapes = nil
	for i, tape := range b.Tapes {
		if set>>i&1 > 0 {
			list = append(list, i)
			x.Tapes = append(x.Tapes, tape)
		}
	}
	return x, list
}

// isLess tells whether a list comes before another one by the number of its elements, and then by these.
func isLess(a, b []int) bool {
	if len(a) != len(b) {
		return len(a) < len(b)
	}
	return slices.Compare(a, b) < 0
}

// clash also tells all lists of tapes with which alone there is no boat.
func (o *oracle) clash() (best []int, all [][]int) {
	for set := range 1 << len(o.book.Tapes) {
		x, list := only(o.book, set)
		if slices.ContainsFunc(o.ways, func(l []int) bool { return agrees(x, l) }) {
			continue
		}
		all = append(all, list)
		if best == nil || isLess(list, best) {
			best = list
		}
	}
	return best, all
}

func (o *oracle) ask() (piece, left int) {
	piece, left = -1, len(o.boats)
	for i := range o.book.Pieces {
		worst := 0
		for n := range api.MaxMouldLong + 1 {
			worst = max(worst, o.count(i, n))
		}
		if worst < left {
			piece, left = i, worst
		}
	}
	return piece, left
}

func some(r *rand.Rand, x api.Span) int { return x.Low + r.Intn(x.High-x.Low+1) }

func randomPiece(r *rand.Rand, name string, size int) api.MouldPiece {
	low := 1 + r.Intn(size)
	return api.MouldPiece{Name: name, Length: to(low, min(low+r.Intn(api.MaxMouldWide), api.MaxMouldLong)), Bears: r.Intn(api.MaxMouldBears + 1)}
}

func randomBoard(r *rand.Rand, name string, size int) api.MouldBoard {
	w := api.MouldBoard{Name: name, Long: min(1+size/2+r.Intn(size), api.MaxMouldLong)}
	at := r.Intn(size)
	for range r.Intn(api.MaxMouldKnots + 1) {
		high := at + r.Intn(3)*r.Intn(2)
		if high >= w.Long {
			break
		}
		w.Knots = append(w.Knots, to(at, high))
		at = high + 1 + r.Intn(1+size/2)
	}
	return w
}

// tapeAbout returns a tape that is right about lengths.
func tapeAbout(r *rand.Rand, l []int) api.MouldTape {
	var t api.MouldTape
	for len(t.Pieces) == 0 {
		for i, n := range l {
			if r.Intn(2) == 0 {
				t.Pieces = append(t.Pieces, i)
				t.Sum = to(t.Sum.Low+n, t.Sum.High+n)
			}
		}
	}
	t.Sum = to(max(t.Sum.Low-r.Intn(2), 0), min(t.Sum.High+r.Intn(2), api.MaxMouldSum))
	return t
}

func names() [3]string { return [...]string{"elm", "b2", "zzzzzzzzz9"} }

// randomBook returns a book whose tapes are about some lengths, but are not always right, and whose pieces often, but not always, can be cut from its boards.
func randomBook(r *rand.Rand) api.MouldBook {
	b := api.MouldBook{Saw: r.Intn(api.MaxMouldSaw + 1)}
	pieces, boards := 1+r.Intn(api.MaxMouldPieces), r.Intn(api.MaxMouldBoards+1)
	size := 7
	if pieces*boards <= 2 && r.Intn(3) == 0 {
		size = api.MaxMouldLong
	}
	for i := range pieces {
		b.Pieces = append(b.Pieces, randomPiece(r, names()[i], 1+size*2/3))
	}
	for i := range boards {
		b.Boards = append(b.Boards, randomBoard(r, names()[2-i], size))
	}
	ways := waysOf(b)
	l := ways[r.Intn(len(ways))]
	for range r.Intn(api.MaxMouldTapes + 1) {
		if r.Intn(3) == 0 {
			l = ways[r.Intn(len(ways))]
		}
		tape := tapeAbout(r, l)
		if r.Intn(6) == 0 {
			tape.Sum = one(tape.Sum.High + 1)
		}
		b.Tapes = append(b.Tapes, tape)
	}
	return b
}

// randomLengths returns lengths near those of a book, or others.
func randomLengths(r *rand.Rand, b api.MouldBook) (l []int) {
	for _, p := range b.Pieces {
		n := p.Length.Low + r.Intn(5) - 1
		if r.Intn(20) == 0 {
			n = 1 + r.Intn(api.MaxMouldLong)
		}
		l = append(l, min(max(n, 1), api.MaxMouldLong))
	}
	return l
}

// randomCuts returns a cutting of a book with boards, often one that surely does, or nearly does.
func randomCuts(r *rand.Rand, o *oracle) []api.MouldCut {
	x := make([]api.MouldCut, len(o.book.Pieces))
	if len(o.sure) > 0 && r.Intn(4) > 0 {
		x = slices.Clone(o.sure[r.Intn(len(o.sure))])
		if i := r.Intn(len(x)); r.Intn(2) == 0 {
			x[i].From = min(x[i].From+1, api.MaxMouldLong)
		}
		return x
	}
	for i := range x {
		x[i].Board = r.Intn(len(o.book.Boards))
		x[i].From = r.Intn(o.book.Boards[x[i].Board].Long + 1)
	}
	return x
}

// eachBook tries books that are the same in each run.
func eachBook(t *testing.T, many int, try func(t *testing.T, b api.MouldBook, o *oracle, r *rand.Rand)) {
	t.Helper()
	r := rand.New(rand.NewSource(4))
	for i := range many {
		b := randomBook(r)
		o := newOracle(b)
		t.Run(fmt.Sprint(i), func(t *testing.T) {
			try(t, b, o, r)
			if t.Failed() {
				t.Log(b)
			}
		})
	}
}
