package spile_test

import (
	"fmt"
	"math/rand"
	"slices"
	"testing"

	"ribband/api"
	"ribband/spile"
)

// The examples of the chapter, and others.
const (
	points = "point 4 0..12 4\npoint 5..6 1..12 4\npoint 4 0..10 4\n"
	textP  = "spile 10 1\n" + points + "check 2 6..7\n"
	textC  = textP + "check 0 6\ncheck 0 5\n"                                                                             // there is no boat
	textF  = "spile 10 0\n" + points                                                                                      // the compass can not slip
	textN  = "spile 8 0\npoint 3 0..9 4\npoint 2..3 2..5 4\n"                                                             // the board is too narrow
	textO  = "spile 9 1\npoint 4 0..12 8\npoint 3..5 3..12 8\n"                                                           // the plank can be had in some boats
	textB  = "spile 3 2\npoint 9 0..20 3\npoint 7..9 0..20 3\n"                                                           // all gaps are below 0
	textT  = "spile 9 3\npoint 4 0..9 0\npoint 5 0..9 0\ncheck 1 1\n"                                                     // the compass slipped
	textS  = "spile 5 2\npoint 4 0..3 3\npoint 4..5 9..12 2\n"                                                            // the board has room at each point, but not for these gaps
	textL  = "spile 9 2\npoint 4 0..20 1\npoint 4 0..20 1\npoint 4..5 0..20 1\npoint 4 0..20 1\ncheck 3 4..5\n"           // a slip before each point
	textE  = "spile 99 3\npoint 0..2 199 0\npoint 97..99 0 0\npoint 0..2 0..199 199\npoint 97..99 0..199 0\ncheck 0 99\n" // at the ends of all limits
)

const (
	most  = int(^uint(0) >> 1)
	least = -most - 1
)

// Numbers by which gaps can be shifted are between these.
const (
	farDown = -api.MaxSpileGap - api.MaxSpileBoard
	farUp   = api.MaxSpileGap + api.MaxSpileBoard
)

func none() api.SpileSlip { return api.SpileSlip{} }

func slip(before, by int) api.SpileSlip { return api.SpileSlip{Before: before, By: by} }

func check(point int, gap api.Span) api.SpileCheck { return api.SpileCheck{Point: point, Gap: gap} }

func to(a, b int) api.Span { return api.Span{Low: a, High: b} }

func one(n int) api.Span { return to(n, n) }

func list(numbers ...int) []int { return numbers }

func parse(t *testing.T, text string) api.SpileBook {
	t.Helper()
	b, line, s := spile.Parse(text)
	if s != api.Clear {
		t.Fatal(text, line, s)
	}
	return b
}

func printed(t *testing.T, b api.SpileBook) string {
	t.Helper()
	text, s := spile.Print(b)
	if s != api.Clear {
		t.Fatal(b, s)
	}
	return text
}

func clone(b api.SpileBook) api.SpileBook {
	b.Points, b.Checks = slices.Clone(b.Points), slices.Clone(b.Checks)
	return b
}

func isIn(x api.Span, n int) bool { return n >= x.Low && n <= x.High }

func isAllowed(b api.SpileBook, k api.SpileSlip) bool {
	return k.Before >= 1 && k.Before <= len(b.Points)-1 && k.By != 0 && k.By >= -b.Slip && k.By <= b.Slip
}

// gapsOf returns the gaps that marks and a slip leave.
func gapsOf(b api.SpileBook, marks []int, k api.SpileSlip) (gaps []int) {
	opening := b.Opening
	for i, mark := range marks {
		if k != none() && i == k.Before {
			opening += k.By
		}
		gaps = append(gaps, opening-mark)
	}
	return gaps
}

// isBoat asks of marks and a slip what the chapter does, one thing after the other.
func isBoat(b api.SpileBook, marks []int, k api.SpileSlip) bool {
	for i, mark := range marks {
		if !isIn(b.Points[i].Mark, mark) {
			return false
		}
	}
	if k != none() && !isAllowed(b, k) {
		return false
	}
	gaps := gapsOf(b, marks, k)
	for _, c := range b.Checks {
		if !isIn(c.Gap, gaps[c.Point]) {
			return false
		}
	}
	return true
}

// ship is one of the boats that there can be.
type ship struct {
	marks []int
	slip  api.SpileSlip
	gaps  []int
}

// shipsOf goes through more marks and slips than a book can have.
func shipsOf(b api.SpileBook) (ships []ship) {
	lists := [][]int{nil}
	for _, p := range b.Points {
		var longer [][]int
		for _, marks := range lists {
			for mark := p.Mark.Low - 1; mark <= p.Mark.High+1; mark++ {
				longer = append(longer, append(slices.Clone(marks), mark))
			}
		}
		lists = longer
	}
	for before := range api.MaxSpilePoints + 1 {
		for by := -api.MaxSpileSlip - 1; by <= api.MaxSpileSlip+1; by++ {
			for _, marks := range lists {
				if isBoat(b, marks, slip(before, by)) {
					ships = append(ships, ship{marks, slip(before, by), gapsOf(b, marks, slip(before, by))})
				}
			}
		}
	}
	return ships
}

// lie tells whether gaps lie on the board, shifted by a number.
func lie(b api.SpileBook, gaps []int, shift int) bool {
	for i, p := range b.Points {
		if gaps[i]+shift < p.Board.Low || gaps[i]+shift+p.Width > p.Board.High {
			return false
		}
	}
	return true
}

// lieAll returns all numbers by which gaps can be shifted so that they lie on the board.
func lieAll(b api.SpileBook, gaps []int) (shifts []int) {
	for n := farDown; n <= farUp; n++ {
		if lie(b, gaps, n) {
			shifts = append(shifts, n)
		}
	}
	return shifts
}

func room(b api.SpileBook) (point, left int) {
	left = most
	for i, p := range b.Points {
		if much := p.Board.High - p.Board.Low - p.Width; much < left {
			point, left = i, much
		}
	}
	return point, left
}

// oracle finds everything about a book by going through all boats.
type oracle struct {
	book  api.SpileBook
	ships []ship
}

func newOracle(b api.SpileBook) *oracle { return &oracle{b, shipsOf(b)} }

// snag is what functions return that need a boat.
func (o *oracle) snag() api.Snag {
	if len(o.ships) == 0 {
		return api.Foul
	}
	return api.Clear
}

func (o *oracle) count(is func(x ship) bool) (many int) {
	for _, x := range o.ships {
		if is(x) {
			many++
		}
	}
	return many
}

func (o *oracle) sure(is func(x ship) bool) api.Sure {
	many := o.count(is)
	switch {
	case many > 0 && many == len(o.ships):
		return api.Yes
	case many == 0 && len(o.ships) > 0:
		return api.No
	}
	return api.Open
}

func (o *oracle) slipped() api.Sure {
	return o.sure(func(x ship) bool { return x.slip != none() })
}

func (o *oracle) slips() (slips []api.SpileSlip) {
	for before := 1; before < len(o.book.Points); before++ {
		for by := -api.MaxSpileSlip; by <= api.MaxSpileSlip; by++ {
			k := slip(before, by)
			if by != 0 && o.count(func(x ship) bool { return x.slip == k }) > 0 {
				slips = append(slips, k)
			}
		}
	}
	return slips
}

func (o *oracle) when() (points []int) {
	for point := 1; point < len(o.book.Points); point++ {
		if o.count(func(x ship) bool { return x.slip != none() && x.slip.Before == point }) > 0 {
			points = append(points, point)
		}
	}
	return points
}

func (o *oracle) with(point, gap int) int {
	return o.count(func(x ship) bool { return x.gaps[point] == gap })
}

func (o *oracle) gap(point int) (gaps []int) {
	for n := -api.MaxSpileGap; n <= api.MaxSpileGap; n++ {
		if o.with(point, n) > 0 {
			gaps = append(gaps, n)
		}
	}
	return gaps
}

func (o *oracle) had() api.Sure {
	return o.sure(func(x ship) bool { return len(lieAll(o.book, x.gaps)) > 0 })
}

// lying returns how many boats' gaps lie on the board, shifted by a number.
func (o *oracle) lying(shift int) int {
	return o.count(func(x ship) bool { return lie(o.book, x.gaps, shift) })
}

func (o *oracle) surely() (shift int, found bool) {
	for n := farDown; n <= farUp && len(o.ships) > 0; n++ {
		if o.lying(n) == len(o.ships) {
			return n, true
		}
	}
	return 0, false
}

func (o *oracle) most() (shift, boats int) {
	for n := farDown; n <= farUp; n++ {
		if many := o.lying(n); many > boats {
			shift, boats = n, many
		}
	}
	return shift, boats
}

func (o *oracle) ask() (point, left int) {
	point, left = -1, len(o.ships)
	for i := range o.book.Points {
		worst := 0
		for _, n := range o.gap(i) {
			worst = max(worst, o.with(i, n))
		}
		if worst < left {
			point, left = i, worst
		}
	}
	return point, left
}

// only returns a book with the checks of a set of numbers, and the list of these.
func only(b api.SpileBook, set int) (api.SpileBook, []int) {
	var list []int
	x := b
	x.Checks = nil
	for i, c := range b.Checks {
		if set>>i&1 > 0 {
			list = append(list, i)
			x.Checks = append(x.Checks, c)
		}
	}
	return x, list
}

// isLess tells whether a list comes before another one by the number of its elements, and then by these.
func isLess(a, b []int) bool {
	if len(a) != len(b) {
		return len(a) < len(b)
	}
	return slices.Compare(a, b) < 0
}

func (o *oracle) clash() (best []int) {
	for set := range 1 << len(o.book.Checks) {
		x, list := only(o.book, set)
		if len(shipsOf(x)) == 0 && (best == nil || isLess(list, best)) {
			best = list
		}
	}
	return best
}

func some(r *rand.Rand, x api.Span) int { return x.Low + r.Intn(x.High-x.Low+1) }

// around returns a span of few numbers, one of which is n, within limits.
func around(r *rand.Rand, n, low, high int) api.Span {
	return to(max(n-r.Intn(2), low), min(n+r.Intn(2), high))
}

// checkOf returns a check that is right about gaps.
func checkOf(r *rand.Rand, gaps []int) api.SpileCheck {
	point := r.Intn(len(gaps))
	return check(point, around(r, gaps[point], -api.MaxSpileGap, api.MaxSpileGap))
}

func randomSlip(r *rand.Rand, b api.SpileBook) api.SpileSlip {
	if b.Slip == 0 || r.Intn(3) == 0 {
		return none()
	}
	by := 1 + r.Intn(b.Slip)
	if r.Intn(2) == 0 {
		by = -by
	}
	return slip(1+r.Intn(len(b.Points)-1), by)
}

// randomMarks returns marks near those of a book, or others.
func randomMarks(r *rand.Rand, b api.SpileBook) (marks []int) {
	for _, p := range b.Points {
		mark := some(r, p.Mark)
		if r.Intn(6) == 0 {
			mark += r.Intn(5) - 2
		}
		marks = append(marks, min(max(mark, 0), api.MaxSpileMark))
	}
	return marks
}

// boardOf returns a board on which a plank perhaps lies that has this edge and this width.
func boardOf(r *rand.Rand, edge, width, spare int) api.Span {
	low := min(max(edge-r.Intn(spare), 0), api.MaxSpileBoard)
	return to(low, min(max(edge+width+r.Intn(spare)-r.Intn(12)/11, low), api.MaxSpileBoard))
}

// randomBook returns a book whose checks are about some boat, but are not always right, and on whose board its gaps lie more often than not.
func randomBook(r *rand.Rand) api.SpileBook {
	b := api.SpileBook{Opening: r.Intn(30), Slip: r.Intn(api.MaxSpileSlip + 1), Points: make([]api.SpilePoint, 2+r.Intn(api.MaxSpilePoints-1))}
	if r.Intn(6) == 0 {
		b.Opening = r.Intn(api.MaxSpileOpening + 1)
	}
	for i := range b.Points {
		mark := min(max(b.Opening-r.Intn(12)+4, 0), api.MaxSpileMark)
		if r.Intn(20) == 0 {
			mark = r.Intn(api.MaxSpileMark + 1)
		}
		b.Points[i].Mark = around(r, mark, 0, api.MaxSpileMark)
	}
	marks, k := randomMarks(r, b), randomSlip(r, b)
	gaps := gapsOf(b, marks, k)
	shift, spare := r.Intn(9)-slices.Min(gaps), 1+r.Intn(9)
	for i, gap := range gaps {
		p := &b.Points[i]
		p.Width = r.Intn(12)
		p.Board = boardOf(r, gap+shift, p.Width, spare)
	}
	for range r.Intn(api.MaxSpileChecks + 1) {
		if r.Intn(4) == 0 {
			gaps = gapsOf(b, randomMarks(r, b), randomSlip(r, b))
		}
		c := checkOf(r, gaps)
		if r.Intn(6) == 0 {
			c.Gap = one(c.Gap.High + 1)
		}
		b.Checks = append(b.Checks, c)
	}
	return b
}

// eachBook tries books that are the same in each run.
func eachBook(t *testing.T, many int, try func(t *testing.T, b api.SpileBook, o *oracle, r *rand.Rand)) {
	t.Helper()
	r := rand.New(rand.NewSource(7))
	for i := range many {
		b := randomBook(r)
		o := newOracle(b)
		t.Run(fmt.Sprint(i), func(t *testing.T) {
			try(t, b, o, r)
			if t.Failed() {
				t.Log(b)
			}
		})
	}
}
