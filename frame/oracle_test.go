package frame_test

import (
	"fmt"
	"math/rand"
	"slices"
	"testing"

	"ribband/api"
	"ribband/frame"
)

// The examples of the chapter.
const (
	pointsF = "frame 2\npoint 0 3\npoint 4 6..7\npoint 12 12..13\n"
	textF   = pointsF + "tape 0 1 5\nstick 8 9 fits\n"
	textC   = pointsF + "tape 0 1 5\ntape 0 2 30\nstick 8 9 fits\nstick 4 7 fits\n"
)

const (
	most  = int(^uint(0) >> 1)
	least = -most - 1
)

func to(a, b int) api.Span { return api.Span{Low: a, High: b} }

func one(n int) api.Span { return to(n, n) }

func parse(t *testing.T, text string) api.FrameBook {
	t.Helper()
	b, line, s := frame.Parse(text)
	if s != api.Clear {
		t.Fatal(text, line, s)
	}
	return b
}

func printed(t *testing.T, b api.FrameBook) string {
	t.Helper()
	text, s := frame.Print(b)
	if s != api.Clear {
		t.Fatal(b, s)
	}
	return text
}

func clone(b api.FrameBook) api.FrameBook {
	b.Points = slices.Clone(b.Points)
	b.Tapes = slices.Clone(b.Tapes)
	b.Sticks = slices.Clone(b.Sticks)
	return b
}

// The breadth at a height is told here without a number below 0: it is the mean of both breadths, each of which weighs as much as the other one is far.
func at(b api.FrameBook, l []int, height int) int {
	for i, p := range b.Points {
		if p.Height == height {
			return l[i]
		}
	}
	for i := len(l) - 1; i > 0; i-- {
		low, high := b.Points[i-1].Height, b.Points[i].Height
		if low < height && height < high {
			return (l[i-1]*(high-height) + l[i]*(height-low)) / (high - low)
		}
	}
	panic("no such height")
}

func far(a, b int) int { return max(a-b, b-a) }

// A girth is found by trying one number after the other.
func girth(b api.FrameBook, l []int, from, to int) int {
	if from == to {
		return 0
	}
	rise, wider := far(b.Points[from].Height, b.Points[from+1].Height), far(l[from], l[from+1])
	n := max(rise, wider)
	for (n+1)*(n+1) <= rise*rise+wider*wider {
		n++
	}
	return n + girth(b, l, from+1, to)
}

// Twice the area is what a rectangle has on each piece, and on the piece above it.
func area(b api.FrameBook, l []int) int {
	sum := 0
	for i := range l {
		if i > 0 {
			sum += l[i] * (b.Points[i].Height - b.Points[i-1].Height)
		}
		if i+1 < len(l) {
			sum += l[i] * (b.Points[i+1].Height - b.Points[i].Height)
		}
	}
	return sum
}

func agrees(b api.FrameBook, l []int) bool {
	for _, x := range b.Tapes {
		if n := girth(b, l, x.From, x.To); n < x.Girth.Low || n > x.Girth.High {
			return false
		}
	}
	for _, x := range b.Sticks {
		if x.Fits && at(b, l, x.Height) < x.Long || !x.Fits && at(b, l, x.Height) >= x.Long {
			return false
		}
	}
	return true
}

// oracle finds everything about a book by going through all breadths of its points.
type oracle struct {
	book  api.FrameBook
	ways  [][]int // breadths of the spans, ascending
	boats [][]int
}

func newOracle(b api.FrameBook) *oracle {
	o := &oracle{book: b}
	many := 1
	for _, p := range b.Points {
		many *= p.Breadth.High - p.Breadth.Low + 1
	}
	for n := range many {
		l := make([]int, len(b.Points))
		for i := len(l) - 1; i >= 0; i-- {
			x := b.Points[i].Breadth
			wide := x.High - x.Low + 1
			l[i] = x.Low + n%wide
			n /= wide
		}
		o.ways = append(o.ways, l)
		if agrees(b, l) {
			o.boats = append(o.boats, l)
		}
	}
	return o
}

// snag is what functions return that need a boat.
func (o *oracle) snag() api.Snag {
	if len(o.boats) == 0 {
		return api.Foul
	}
	return api.Clear
}

func (o *oracle) has(l []int) bool {
	return slices.ContainsFunc(o.boats, func(x []int) bool { return slices.Equal(x, l) })
}

func (o *oracle) count(point, breadth int) int {
	n := 0
	for _, x := range o.boats {
		if x[point] == breadth {
			n++
		}
	}
	return n
}

func (o *oracle) breadths(point int) (list []int) {
	for n := range api.MaxFrameMeasure + 1 {
		if o.count(point, n) > 0 {
			list = append(list, n)
		}
	}
	return list
}

// answers returns what boats answer, ascending.
func (o *oracle) answers(question func(l []int) int) (list []int) {
	for _, x := range o.boats {
		list = append(list, question(x))
	}
	slices.Sort(list)
	return list
}

func (o *oracle) span(question func(l []int) int) api.Span {
	list := o.answers(question)
	if len(list) == 0 {
		return api.Span{}
	}
	return to(list[0], list[len(list)-1])
}

func (o *oracle) between(height int) api.Span {
	return o.span(func(l []int) int { return at(o.book, l, height) })
}

func (o *oracle) girths(from, to int) api.Span {
	return o.span(func(l []int) int { return girth(o.book, l, from, to) })
}

func (o *oracle) areas() api.Span {
	return o.span(func(l []int) int { return area(o.book, l) })
}

func (o *oracle) clears(height, long int) api.Sure {
	x := o.between(height)
	switch {
	case len(o.boats) == 0:
		return api.Open
	case x.Low >= long:
		return api.Yes
	case x.High < long:
		return api.No
	}
	return api.Open
}

func (o *oracle) leanest() []int {
	var lean []int
	for _, x := range o.boats {
		if lean == nil || area(o.book, x) < area(o.book, lean) {
			lean = x
		}
	}
	return lean
}

// isLess tells whether a list comes before another one by the number of its elements, and then by these.
func isLess(a, b []int) bool {
	if len(a) != len(b) {
		return len(a) < len(b)
	}
	return slices.Compare(a, b) < 0
}

// only returns a book with the tapes and sticks of a set of numbers, and the list of these.
func only(b api.FrameBook, set int) (api.FrameBook, []int) {
	var list []int
	x := b
	x.Tapes, x.Sticks = nil, nil
	for i := range len(b.Tapes) + len(b.Sticks) {
		if set>>i&1 == 0 {
			continue
		}
		list = append(list, i)
		if i < len(b.Tapes) {
			x.Tapes = append(x.Tapes, b.Tapes[i])
		} else {
			x.Sticks = append(x.Sticks, b.Sticks[i-len(b.Tapes)])
		}
	}
	return x, list
}

// clash also tells all lists of tapes and sticks with which alone there is no boat.
func (o *oracle) clash() (best []int, all [][]int) {
	for set := range 1 << (len(o.book.Tapes) + len(o.book.Sticks)) {
		x, list := only(o.book, set)
		if slices.ContainsFunc(o.ways, func(l []int) bool { return agrees(x, l) }) {
			continue
		}
		all = append(all, list)
		if best == nil || isLess(list, best) {
			best = list
		}
	}
	return best, all
}

func (o *oracle) worst(point int) int {
	n := 0
	for breadth := range api.MaxFrameMeasure + 1 {
		n = max(n, o.count(point, breadth))
	}
	return n
}

func (o *oracle) ask() (point, left int) {
	point, left = -1, len(o.boats)
	for i := range o.book.Points {
		if n := o.worst(i); n < left {
			point, left = i, n
		}
	}
	return point, left
}

// randomBook returns a book whose tapes and sticks are about some frame, but are not always right, so that many books have boats, and many have none.
func randomBook(r *rand.Rand) api.FrameBook {
	n := 2 + r.Intn(api.MaxFramePoints-1)
	b := api.FrameBook{Plank: r.Intn(api.MaxFramePlank + 1)}
	height, breadth, size := r.Intn(5), r.Intn(12), 9
	if r.Intn(4) == 0 {
		size = 150
	}
	var l []int
	for range n {
		low := min(max(breadth, 0), api.MaxFrameMeasure-api.MaxFrameWide+1)
		x := to(low, low+r.Intn(api.MaxFrameWide))
		b.Points = append(b.Points, api.FramePoint{Height: height, Breadth: x})
		l = append(l, some(r, x))
		height += 1 + r.Intn(size)
		breadth += r.Intn(2*size) - size/2
	}
	wrong := func() int {
		if r.Intn(4) == 0 {
			return r.Intn(5) - 2
		}
		return 0
	}
	for range r.Intn(api.MaxFrameTapes + 1) {
		from := r.Intn(n - 1)
		to := from + 1 + r.Intn(n-from-1)
		low := max(girth(b, l, from, to)+wrong()-r.Intn(2), 0)
		b.Tapes = append(b.Tapes, api.FrameTape{From: from, To: to, Girth: api.Span{Low: low, High: low + r.Intn(2)}})
	}
	for range r.Intn(api.MaxFrameSticks + 1) {
		height := someHeight(r, b)
		b.Sticks = append(b.Sticks, stickAbout(r, height, max(at(b, l, height)+wrong(), 0)))
	}
	return b
}

func some(r *rand.Rand, x api.Span) int { return x.Low + r.Intn(x.High-x.Low+1) }

func someHeight(r *rand.Rand, b api.FrameBook) int {
	return some(r, to(b.Points[0].Height, b.Points[len(b.Points)-1].Height))
}

// stickAbout returns a stick that fits, or does not, where the breadth is so much.
func stickAbout(r *rand.Rand, height, breadth int) api.FrameStick {
	long := min(max(breadth+r.Intn(4)-1, 0), api.MaxFrameMeasure)
	return api.FrameStick{Height: height, Long: long, Fits: long <= breadth}
}

// randomBreadths returns breadths near those of a book, or others.
func randomBreadths(r *rand.Rand, b api.FrameBook) []int {
	var l []int
	for _, p := range b.Points {
		n := p.Breadth.Low + r.Intn(5) - 1
		if r.Intn(20) == 0 {
			n = r.Intn(api.MaxFrameMeasure + 1)
		}
		l = append(l, min(max(n, 0), api.MaxFrameMeasure))
	}
	return l
}

// heights returns those of all points, and some between them.
func heights(r *rand.Rand, b api.FrameBook) (list []int) {
	for _, p := range b.Points {
		list = append(list, p.Height, someHeight(r, b))
	}
	return list
}

// eachStretch tries all pairs of points.
func eachStretch(b api.FrameBook, try func(from, to int)) {
	for to := range b.Points {
		for from := range to {
			try(from, to)
		}
	}
}

// eachBook tries books that are the same in each run.
func eachBook(t *testing.T, many int, try func(t *testing.T, b api.FrameBook, o *oracle, r *rand.Rand)) {
	t.Helper()
	r := rand.New(rand.NewSource(3))
	for i := range many {
		b := randomBook(r)
		o := newOracle(b)
		t.Run(fmt.Sprint(i), func(t *testing.T) {
			try(t, b, o, r)
			if t.Failed() {
				t.Log(b)
			}
		})
	}
}
