package butt_test

import (
	"fmt"
	"math/rand"
	"slices"
	"testing"

	"ribband/api"
	"ribband/butt"
)

// The examples of the chapter, and others.
const (
	headP = "butt 6 2 2 1 2\n"
	textP = headP + "kind 2 1 2..3\nkind 4 3 3\n"
	textC = textP + "note 0 2\nnote 0+1 6\n"              // there is no boat
	textO = headP + "kind 2 1 1..2\nkind 4 3 2..3\n"      // with 1 and 2 boards 2 / 4 can not be planked
	textN = "butt 3 2 0 0 4\nkind 9 1 12\n"               // no layout keeps the rules
	textE = "butt 4 1 0 0 1\nkind 1 1 3..4\nkind 4 9 1\n" // four short planks are cheaper than a long one
)

const (
	most  = int(^uint(0) >> 1)
	least = -most - 1
)

func to(a, b int) api.Span { return api.Span{Low: a, High: b} }

func one(n int) api.Span { return to(n, n) }

func note(sum api.Span, kinds ...int) api.ButtNote { return api.ButtNote{Kinds: kinds, Sum: sum} }

// lay returns a layout, strake by strake.
func lay(strakes ...[]int) [][]int { return strakes }

func on(frames ...int) []int { return frames }

func parse(t *testing.T, text string) api.ButtBook {
	t.Helper()
	b, line, s := butt.Parse(text)
	if s != api.Clear {
		t.Fatal(text, line, s)
	}
	return b
}

func printed(t *testing.T, b api.ButtBook) string {
	t.Helper()
	text, s := butt.Print(b)
	if s != api.Clear {
		t.Fatal(b, s)
	}
	return text
}

func clone(b api.ButtBook) api.ButtBook {
	b.Kinds, b.Notes = slices.Clone(b.Kinds), slices.Clone(b.Notes)
	for i := range b.Notes {
		b.Notes[i].Kinds = slices.Clone(b.Notes[i].Kinds)
	}
	return b
}

func isIn(x api.Span, n int) bool { return n >= x.Low && n <= x.High }

func distance(a, b int) int { return max(a-b, b-a) }

func same(a, b [][]int) bool { return slices.EqualFunc(a, b, slices.Equal) }

func compare(a, b [][]int) int { return slices.CompareFunc(a, b, slices.Compare[[]int]) }

// planksOf returns the lengths of the planks of a strake.
func planksOf(b api.ButtBook, frames []int) (planks []int) {
	from := 0
	for frame := 1; frame < b.Frames; frame++ {
		if slices.Contains(frames, frame) {
			planks = append(planks, frame-from)
			from = frame
		}
	}
	return append(planks, b.Frames-from)
}

func allPlanks(b api.ButtBook, l [][]int) (planks []int) {
	for _, frames := range l {
		planks = append(planks, planksOf(b, frames)...)
	}
	return planks
}

// keeps asks of a layout what the chapter does, one thing after the other.
func keeps(b api.ButtBook, l [][]int) bool {
	for _, long := range allPlanks(b, l) {
		if long < b.Least {
			return false
		}
	}
	for i := range l {
		for k := i + 1; k < len(l); k++ {
			for _, x := range l[i] {
				for _, y := range l[k] {
					if k == i+1 && distance(x, y) < b.Gap || x == y && k-i-1 < b.Between {
						return false
					}
				}
			}
		}
	}
	return true
}

// listsOf returns all lists of frames on which a strake can have butts, the least one first.
func listsOf(b api.ButtBook) (lists [][]int) {
	for set := range 1 << (b.Frames - 1) {
		var list []int
		for frame := 1; frame < b.Frames; frame++ {
			if set>>(frame-1)&1 > 0 {
				list = append(list, frame)
			}
		}
		lists = append(lists, list)
	}
	slices.SortFunc(lists, slices.Compare[[]int])
	return lists
}

// layoutsOf returns all layouts that keep the rules.
func layoutsOf(b api.ButtBook) (good [][][]int) {
	all := [][][]int{nil}
	for range b.Strakes {
		var more [][][]int
		for _, l := range all {
			for _, list := range listsOf(b) {
				if now := append(slices.Clone(l), list); keeps(b, now) {
					more = append(more, now)
				}
			}
		}
		all = more
	}
	slices.SortFunc(all, compare)
	return all
}

// do tells whether boards do for planks: the longest board for the longest plank, and so on.
func do(b api.ButtBook, planks, numbers []int) bool {
	var boards []int
	for kind, n := range numbers {
		boards = append(boards, slices.Repeat([]int{b.Kinds[kind].Long}, n)...)
	}
	slices.Sort(boards)
	slices.Reverse(boards)
	planks = slices.Clone(planks)
	slices.Sort(planks)
	slices.Reverse(planks)
	if len(boards) < len(planks) {
		return false
	}
	for i, long := range planks {
		if boards[i] < long {
			return false
		}
	}
	return true
}

// upTo returns all lists of numbers that are not above others, ascending.
func upTo(numbers []int) [][]int {
	lists := [][]int{nil}
	for _, most := range numbers {
		var longer [][]int
		for _, list := range lists {
			for n := range most + 1 {
				longer = append(longer, append(slices.Clone(list), n))
			}
		}
		lists = longer
	}
	return lists
}

func sum(list []int) (n int) {
	for _, x := range list {
		n += x
	}
	return n
}

func costOf(b api.ButtBook, taken []int) (cost int) {
	for kind, n := range taken {
		cost += n * b.Kinds[kind].Cost
	}
	return cost
}

// bought is what boards are taken, if any do.
type bought struct {
	taken []int
	cost  int
	found bool
}

// buy goes through all boards that could be taken for planks.
func buy(b api.ButtBook, planks, numbers []int) (best bought) {
	var enough []int
	for _, n := range numbers {
		enough = append(enough, min(n, len(planks)))
	}
	for _, taken := range upTo(enough) {
		if sum(taken) != len(planks) || !do(b, planks, taken) {
			continue
		}
		if cost := costOf(b, taken); !best.found || cost < best.cost {
			best = bought{taken, cost, true}
		}
	}
	return best
}

func isBoat(b api.ButtBook, numbers []int) bool {
	for kind, n := range numbers {
		if !isIn(b.Kinds[kind].Many, n) {
			return false
		}
	}
	return !slices.ContainsFunc(b.Notes, func(x api.ButtNote) bool {
		n := 0
		for _, kind := range x.Kinds {
			n += numbers[kind]
		}
		return !isIn(x.Sum, n)
	})
}

func boatsOf(b api.ButtBook) (boats [][]int) {
	for _, numbers := range upTo(slices.Repeat([]int{api.MaxButtMany}, len(b.Kinds))) {
		if isBoat(b, numbers) {
			boats = append(boats, numbers)
		}
	}
	return boats
}

// oracle finds everything about a book by going through all layouts, all numbers of boards, and all that could be taken of these.
type oracle struct {
	book    api.ButtBook
	layouts [][][]int
	boats   [][]int
	bought  map[string]bought
}

func newOracle(b api.ButtBook) *oracle {
	return &oracle{b, layoutsOf(b), boatsOf(b), map[string]bought{}}
}

// snag is what functions return that need a boat.
func (o *oracle) snag() api.Snag {
	if len(o.boats) == 0 {
		return api.Foul
	}
	return api.Clear
}

func (o *oracle) take(l [][]int, numbers []int) bought {
	if !keeps(o.book, l) {
		return bought{}
	}
	planks := allPlanks(o.book, l)
	slices.Sort(planks)
	key := fmt.Sprint(planks, numbers)
	if _, done := o.bought[key]; !done {
		o.bought[key] = buy(o.book, planks, numbers)
	}
	return o.bought[key]
}

func (o *oracle) count(kind, n int) int {
	many := 0
	for _, boat := range o.boats {
		if boat[kind] == n {
			many++
		}
	}
	return many
}

func (o *oracle) numbers(kind int) (list []int) {
	for n := range api.MaxButtMany + 1 {
		if o.count(kind, n) > 0 {
			list = append(list, n)
		}
	}
	return list
}

// can also tells what a layout costs in the boat in which it costs the most.
func (o *oracle) can(l [][]int) (sure api.Sure, cost int) {
	yes, no := false, false
	for _, boat := range o.boats {
		x := o.take(l, boat)
		yes, no = yes || x.found, no || !x.found
		cost = max(cost, x.cost)
	}
	switch {
	case yes == no:
		return api.Open, cost
	case yes:
		return api.Yes, cost
	}
	return api.No, cost
}

// found is the best one of layouts.
type found struct {
	layout [][]int
	much   int
	found  bool
}

// best goes through all layouts that surely can be planked.
func (o *oracle) best(much func(l [][]int, cost int) int) (best found) {
	for _, l := range o.layouts {
		sure, cost := o.can(l)
		if sure != api.Yes {
			continue
		}
		if n := much(l, cost); !best.found || n < best.much {
			best = found{l, n, true}
		}
	}
	return best
}

func (o *oracle) fewest() found {
	return o.best(func(l [][]int, cost int) int { return len(allPlanks(o.book, l)) })
}

func (o *oracle) cheapest() found {
	return o.best(func(l [][]int, cost int) int { return cost })
}

func (o *oracle) shift(from [][]int) found {
	return o.best(func(l [][]int, cost int) int { return changes(from, l) })
}

// changes returns how many butts are only in one of two layouts.
func changes(from, l [][]int) (many int) {
	for strake := range l {
		for frame := range api.MaxButtFrames {
			if slices.Contains(from[strake], frame) != slices.Contains(l[strake], frame) {
				many++
			}
		}
	}
	return many
}

// rotten returns what a book is without a board.
func rotten(b api.ButtBook, kind int) (api.ButtBook, api.Snag) {
	if b.Kinds[kind].Many.High == 0 {
		return api.ButtBook{}, api.Scant
	}
	less := func(x *api.Span) { x.Low, x.High = max(x.Low-1, 0), max(x.High-1, 0) }
	now := clone(b)
	less(&now.Kinds[kind].Many)
	for i, x := range b.Notes {
		if slices.Contains(x.Kinds, kind) {
			if x.Sum.High == 0 {
				return api.ButtBook{}, api.Foul
			}
			less(&now.Notes[i].Sum)
		}
	}
	if len(boatsOf(now)) == 0 {
		return api.ButtBook{}, api.Foul
	}
	return now, api.Clear
}

// only returns a book with the notes of a set of numbers, and the list of these.
func only(b api.ButtBook, set int) (api.ButtBook, []int) {
	var list []int
	x := b
	x.Notes = nil
	for i, n := range b.Notes {
		if set>>i&1 > 0 {
			list = append(list, i)
			x.Notes = append(x.Notes, n)
		}
	}
	return x, list
}

// isLess tells whether a list comes before another one by the number of its elements, and then by these.
func isLess(a, b []int) bool {
	if len(a) != len(b) {
		return len(a) < len(b)
	}
	return slices.Compare(a, b) < 0
}

func (o *oracle) clash() (best []int) {
	for set := range 1 << len(o.book.Notes) {
		x, list := only(o.book, set)
		if len(boatsOf(x)) == 0 && (best == nil || isLess(list, best)) {
			best = list
		}
	}
	return best
}

func (o *oracle) ask() (kind, left int) {
	kind, left = -1, len(o.boats)
	for i := range o.book.Kinds {
		worst := 0
		for n := range api.MaxButtMany + 1 {
			worst = max(worst, o.count(i, n))
		}
		if worst < left {
			kind, left = i, worst
		}
	}
	return kind, left
}

func some(r *rand.Rand, x api.Span) int { return x.Low + r.Intn(x.High-x.Low+1) }

// around returns a span of few numbers, one of which is n, within limits.
func around(r *rand.Rand, n, most int) api.Span {
	return to(max(n-r.Intn(2), 0), min(n+r.Intn(2), most))
}

// noteAbout returns a note that is right about numbers of boards.
func noteAbout(r *rand.Rand, numbers []int) api.ButtNote {
	var x api.ButtNote
	n := 0
	for len(x.Kinds) == 0 {
		for kind, many := range numbers {
			if r.Intn(2) == 0 {
				x.Kinds = append(x.Kinds, kind)
				n += many
			}
		}
	}
	x.Sum = around(r, n, api.MaxButtSum)
	return x
}

// randomBook returns a book whose notes are about some numbers of boards, but are not always right. It has so few layouts that all of them can be gone through.
func randomBook(r *rand.Rand) api.ButtBook {
	b := api.ButtBook{Strakes: 1 + r.Intn(api.MaxButtStrakes), Gap: r.Intn(4), Between: r.Intn(3), Least: 1 + r.Intn(2)}
	b.Frames = 1 + r.Intn([...]int{6, 6, 4}[b.Strakes-1])
	if r.Intn(6) == 0 {
		b.Gap, b.Least = r.Intn(api.MaxButtGap+1), 1+r.Intn(api.MaxButtFrames)
	}
	var numbers []int
	long := 1 + r.Intn(3)
	rich := r.Intn(9)
	if r.Intn(20) == 0 {
		rich = api.MaxButtMany
	}
	for range 1 + r.Intn(api.MaxButtKinds) {
		if long > api.MaxButtLong {
			break
		}
		many := to(max(rich-r.Intn(5), 0), 0)
		many.High = min(many.Low+r.Intn(api.MaxButtWide), api.MaxButtMany)
		b.Kinds = append(b.Kinds, api.ButtKind{Long: long, Cost: r.Intn(3 * long), Many: many})
		numbers = append(numbers, some(r, many))
		long += 1 + r.Intn(4)
	}
	if r.Intn(6) == 0 {
		b.Kinds[0].Cost = r.Intn(api.MaxButtCost + 1)
	}
	for range r.Intn(api.MaxButtNotes + 1) {
		if r.Intn(4) == 0 {
			kind := r.Intn(len(b.Kinds))
			numbers[kind] = some(r, b.Kinds[kind].Many)
		}
		x := noteAbout(r, numbers)
		if r.Intn(6) == 0 {
			x.Sum = one(min(x.Sum.High+1, api.MaxButtSum))
		}
		b.Notes = append(b.Notes, x)
	}
	return b
}

// randomLayout returns a layout, whether it keeps the rules or not.
func randomLayout(r *rand.Rand, b api.ButtBook) (l [][]int) {
	for range b.Strakes {
		var list []int
		for frame := 1; frame < b.Frames; frame++ {
			if r.Intn(3) == 0 {
				list = append(list, frame)
			}
		}
		l = append(l, list)
	}
	return l
}

// anyLayout returns a layout that keeps the rules more often than not, if there is one.
func (o *oracle) anyLayout(r *rand.Rand) [][]int {
	if len(o.layouts) == 0 || r.Intn(4) == 0 {
		return randomLayout(r, o.book)
	}
	return o.layouts[r.Intn(len(o.layouts))]
}

// randomNumbers returns numbers of boards near those of a book, or others.
func randomNumbers(r *rand.Rand, b api.ButtBook) (numbers []int) {
	for _, k := range b.Kinds {
		n := some(r, k.Many) + r.Intn(3)/2*(r.Intn(5)-2)
		if r.Intn(20) == 0 {
			n = r.Intn(api.MaxButtMany + 1)
		}
		numbers = append(numbers, min(max(n, 0), api.MaxButtMany))
	}
	return numbers
}

// eachBook tries books that are the same in each run.
func eachBook(t *testing.T, many int, try func(t *testing.T, b api.ButtBook, o *oracle, r *rand.Rand)) {
	t.Helper()
	r := rand.New(rand.NewSource(6))
	for i := range many {
		b := randomBook(r)
		o := newOracle(b)
		t.Run(fmt.Sprint(i), func(t *testing.T) {
			try(t, b, o, r)
			if t.Failed() {
				t.Log(b)
			}
		})
	}
}
