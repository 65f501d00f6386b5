package bevel_test

import (
	"fmt"
	"math"
	"math/rand"
	"slices"
	"testing"

	"ribband/api"
	"ribband/bevel"
)

// The examples of the chapter, and others.
const (
	frames = "offset 10\noffset 12..13\noffset 14\noffset 14..15\n"
	reads  = "reading 0 4\nreading 1 2\n"
	textE  = "bevel 3 4 1 2 1\n" + frames + reads
	textN  = "bevel 3 4 1 2 1\n" + frames                                                                                                // without readings
	textC  = "bevel 3 4 1 2 0\n" + frames + reads                                                                                        // there is no boat
	textD  = "bevel 3 4 1 2 2\n" + frames + reads                                                                                        // both readings can be wrong
	textF  = "bevel 1 1 0 1 0\noffset 5\noffset 5\noffset 5\n"                                                                           // all is square
	textU  = "bevel 2 3 2 2 0\noffset 9\noffset 7..8\noffset 4\n"                                                                        // all is under
	textW  = "bevel 1 1 1 1 2\noffset 5\noffset 5..6\noffset 6\nreading 0 1\nreading 1 1\nreading 0 3\n"                                 // one reading is wrong for sure
	textT  = "bevel 2 1 1 3 0\noffset 20\noffset 20\noffset 21\noffset 23\noffset 30\noffset 21..23\n"                                   // a plane does not follow at the last frames
	textS  = "bevel 3 1 0 1 1\noffset 4..6\noffset 5\noffset 4..6\nreading 0 0\nreading 1 -1\n"                                          // some rises have the same bevel
	textL  = "bevel 99 99 999 99 2\noffset 0..2\noffset 957..959\noffset 0\noffset 959\noffset 0\noffset 959\nreading 4 -99999..99999\n" // at the ends of all limits
)

const (
	most  = int(^uint(0) >> 1)
	least = -most - 1
)

func to(a, b int) api.Span { return api.Span{Low: a, High: b} }

func one(n int) api.Span { return to(n, n) }

func list(numbers ...int) []int { return numbers }

func reading(frame int, x api.Span) api.BevelReading {
	return api.BevelReading{Frame: frame, Bevel: x}
}

func parse(t *testing.T, text string) api.BevelBook {
	t.Helper()
	b, line, s := bevel.Parse(text)
	if s != api.Clear {
		t.Fatal(text, line, s)
	}
	return b
}

func printed(t *testing.T, b api.BevelBook) string {
	t.Helper()
	text, s := bevel.Print(b)
	if s != api.Clear {
		t.Fatal(b, s)
	}
	return text
}

func clone(b api.BevelBook) api.BevelBook {
	b.Offsets, b.Readings = slices.Clone(b.Offsets), slices.Clone(b.Readings)
	return b
}

func isIn(x api.Span, n int) bool { return n >= x.Low && n <= x.High }

// bevelsOf reckons the bevels that offsets make as fractions.
func bevelsOf(b api.BevelBook, offsets []int) (bevels []int) {
	for i := 1; i < len(offsets); i++ {
		rise := float64(offsets[i] - offsets[i-1])
		bevels = append(bevels, int(math.Floor(rise*float64(b.Scale)/float64(b.Run))))
	}
	return bevels
}

// followsAt tells whether a plane follows at a frame that is neither the first one nor the last one.
func followsAt(b api.BevelBook, bevels []int, frame int) bool {
	change := bevels[frame] - bevels[frame-1]
	return change <= b.Follow && change >= -b.Follow
}

func followsFrom(b api.BevelBook, bevels []int, from, to int) bool {
	for frame := from + 1; frame < to; frame++ {
		if !followsAt(b, bevels, frame) {
			return false
		}
	}
	return true
}

// passesAt goes over the edge at a frame until nothing is left.
func passesAt(b api.BevelBook, bevels []int, frame int) (passes int) {
	left := bevels[frame]
	if left < 0 {
		left = -left
	}
	for ; left > 0; left -= b.Bite {
		passes++
	}
	return passes
}

func passesFrom(b api.BevelBook, bevels []int, from, to int) (passes int) {
	for frame := from; frame < to; frame++ {
		passes = max(passes, passesAt(b, bevels, frame))
	}
	return passes
}

// isBoat asks of offsets and wrong readings what the chapter does, one thing after the other.
func isBoat(b api.BevelBook, offsets, wrong []int) bool {
	if len(wrong) > b.Wrong {
		return false
	}
	for i, offset := range offsets {
		if !isIn(b.Offsets[i], offset) {
			return false
		}
	}
	bevels := bevelsOf(b, offsets)
	for i, r := range b.Readings {
		if !slices.Contains(wrong, i) && !isIn(r.Bevel, bevels[r.Frame]) {
			return false
		}
	}
	return true
}

// ship is one of the boats that there can be.
type ship struct{ offsets, wrong, bevels []int }

// offsetsOf returns all offsets that frames can have.
func offsetsOf(b api.BevelBook) [][]int {
	lists := [][]int{nil}
	for _, x := range b.Offsets {
		var longer [][]int
		for _, offsets := range lists {
			for n := x.Low; n <= x.High; n++ {
				longer = append(longer, append(slices.Clone(offsets), n))
			}
		}
		lists = longer
	}
	return lists
}

// members returns the numbers that a set has.
func members(set int) (list []int) {
	for i := range api.MaxBevelReadings {
		if set>>i&1 > 0 {
			list = append(list, i)
		}
	}
	return list
}

// shipsOf goes through all offsets, and through all sets of readings, also those with more of them than can be wrong.
func shipsOf(b api.BevelBook) (ships []ship) {
	for _, offsets := range offsetsOf(b) {
		for set := range 1 << len(b.Readings) {
			if wrong := members(set); isBoat(b, offsets, wrong) {
				ships = append(ships, ship{offsets, wrong, bevelsOf(b, offsets)})
			}
		}
	}
	return ships
}

// canBeRight tells whether all readings of a set can be right together.
func canBeRight(b api.BevelBook, set int) bool {
	for _, offsets := range offsetsOf(b) {
		bevels, good := bevelsOf(b, offsets), true
		for _, i := range members(set) {
			good = good && isIn(b.Readings[i].Bevel, bevels[b.Readings[i].Frame])
		}
		if good {
			return true
		}
	}
	return false
}

// oracle finds everything about a book by going through all boats.
type oracle struct {
	book  api.BevelBook
	ships []ship
}

func newOracle(b api.BevelBook) *oracle { return &oracle{b, shipsOf(b)} }

// snag is what functions return that need a boat.
func (o *oracle) snag() api.Snag {
	if len(o.ships) == 0 {
		return api.Foul
	}
	return api.Clear
}

func (o *oracle) count(is func(x ship) bool) (many int) {
	for _, x := range o.ships {
		if is(x) {
			many++
		}
	}
	return many
}

func (o *oracle) sure(is func(x ship) bool) api.Sure {
	many := o.count(is)
	switch {
	case many > 0 && many == len(o.ships):
		return api.Yes
	case many == 0 && len(o.ships) > 0:
		return api.No
	}
	return api.Open
}

func (o *oracle) with(frame, offset int) int {
	return o.count(func(x ship) bool { return x.offsets[frame] == offset })
}

func (o *oracle) offsets(frame int) (offsets []int) {
	for n := range api.MaxBevelOffset + 1 {
		if o.with(frame, n) > 0 {
			offsets = append(offsets, n)
		}
	}
	return offsets
}

func (o *oracle) at(frame int) (bevels []int) {
	seen := map[int]bool{}
	for _, x := range o.ships {
		if !seen[x.bevels[frame]] {
			seen[x.bevels[frame]] = true
			bevels = append(bevels, x.bevels[frame])
		}
	}
	slices.Sort(bevels)
	return bevels
}

func (o *oracle) stands(frame int) api.Sure {
	return o.sure(func(x ship) bool { return x.bevels[frame] > 0 })
}

func (o *oracle) alike(one, two int) api.Sure {
	return o.sure(func(x ship) bool { return x.bevels[one] == x.bevels[two] })
}

func (o *oracle) wrong(reading int) api.Sure {
	return o.sure(func(x ship) bool { return slices.Contains(x.wrong, reading) })
}

func (o *oracle) follows(from, to int) api.Sure {
	return o.sure(func(x ship) bool { return followsFrom(o.book, x.bevels, from, to) })
}

func (o *oracle) breaks() (frames []int) {
	for frame := 1; frame < len(o.book.Offsets)-1; frame++ {
		if o.count(func(x ship) bool { return !followsAt(o.book, x.bevels, frame) }) > 0 {
			frames = append(frames, frame)
		}
	}
	return frames
}

func (o *oracle) passes(from, upTo int) (x api.Span) {
	for i, s := range o.ships {
		n := passesFrom(o.book, s.bevels, from, upTo)
		if i == 0 {
			x = one(n)
		}
		x = to(min(x.Low, n), max(x.High, n))
	}
	return x
}

// isLess tells whether a list comes before another one by the number of its elements, and then by these.
func isLess(a, b []int) bool {
	if len(a) != len(b) {
		return len(a) < len(b)
	}
	return slices.Compare(a, b) < 0
}

func (o *oracle) fewest() (best []int) {
	all, found := 1<<len(o.book.Readings)-1, false
	for set := range all + 1 {
		if l := members(set); canBeRight(o.book, all&^set) && (!found || isLess(l, best)) {
			best, found = l, true
		}
	}
	return best
}

func (o *oracle) clash() (best []int) {
	for set := range 1 << len(o.book.Readings) {
		if l := members(set); !canBeRight(o.book, set) && (best == nil || isLess(l, best)) {
			best = l
		}
	}
	return best
}

func (o *oracle) ask() (frame, left int) {
	frame, left = -1, len(o.ships)
	for i := range o.book.Offsets {
		worst := 0
		for _, n := range o.offsets(i) {
			worst = max(worst, o.with(i, n))
		}
		if worst < left {
			frame, left = i, worst
		}
	}
	return frame, left
}

func some(r *rand.Rand, x api.Span) int { return x.Low + r.Intn(x.High-x.Low+1) }

// around returns a span of few numbers, one of which is n, within limits.
func around(r *rand.Rand, n, low, high int) api.Span {
	return to(max(n-r.Intn(2), low), min(n+r.Intn(2), high))
}

// readingOf returns a reading that is right about bevels.
func readingOf(r *rand.Rand, bevels []int) api.BevelReading {
	frame := r.Intn(len(bevels))
	return reading(frame, around(r, bevels[frame], -api.MaxBevelBevel, api.MaxBevelBevel))
}

// someOffsets returns offsets that frames can have.
func someOffsets(r *rand.Rand, b api.BevelBook) (offsets []int) {
	for _, x := range b.Offsets {
		offsets = append(offsets, some(r, x))
	}
	return offsets
}

// randomOffsets returns offsets that frames can have, or others near to these.
func randomOffsets(r *rand.Rand, b api.BevelBook) []int {
	offsets := someOffsets(r, b)
	for i := range offsets {
		if r.Intn(6) == 0 {
			offsets[i] = min(max(offsets[i]+r.Intn(5)-2, 0), api.MaxBevelOffset)
		}
	}
	return offsets
}

// randomWrong returns readings, about as many as can be wrong.
func randomWrong(r *rand.Rand, b api.BevelBook) (wrong []int) {
	for i := range b.Readings {
		if len(wrong) <= b.Wrong && r.Intn(3) == 0 {
			wrong = append(wrong, i)
		}
	}
	return wrong
}

// randomBook returns a book whose readings are about some boat, but are not always right.
func randomBook(r *rand.Rand) api.BevelBook {
	b := api.BevelBook{Run: 1 + r.Intn(6), Scale: 1 + r.Intn(6), Follow: r.Intn(6), Bite: 1 + r.Intn(4), Wrong: r.Intn(api.MaxBevelWrong + 1)}
	if r.Intn(8) == 0 {
		b.Run, b.Scale, b.Follow, b.Bite = 1+r.Intn(api.MaxBevelRun), 1+r.Intn(api.MaxBevelScale), r.Intn(api.MaxBevelFollow+1), 1+r.Intn(api.MaxBevelBite)
	}
	offset := 10 + r.Intn(30)
	for range 3 + r.Intn(api.MaxBevelFrames-2) {
		if r.Intn(30) == 0 {
			offset = r.Intn(api.MaxBevelOffset + 1)
		}
		b.Offsets = append(b.Offsets, around(r, offset, 0, api.MaxBevelOffset))
		offset = min(max(offset+r.Intn(7)-2, 0), api.MaxBevelOffset)
	}
	offsets := someOffsets(r, b)
	for range r.Intn(api.MaxBevelReadings + 1) {
		if r.Intn(3) == 0 {
			offsets = someOffsets(r, b)
		}
		x := readingOf(r, bevelsOf(b, offsets))
		if r.Intn(5) == 0 {
			x.Bevel = one(x.Bevel.High + 1 + r.Intn(2))
		}
		b.Readings = append(b.Readings, x)
	}
	return b
}

// eachBook tries books that are the same in each run.
func eachBook(t *testing.T, many int, try func(t *testing.T, b api.BevelBook, o *oracle, r *rand.Rand)) {
	t.Helper()
	r := rand.New(rand.NewSource(8))
	for i := range many {
		b := randomBook(r)
		o := newOracle(b)
		t.Run(fmt.Sprint(i), func(t *testing.T) {
			try(t, b, o, r)
			if t.Failed() {
				t.Log(b)
			}
		})
	}
}
