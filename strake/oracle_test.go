package strake_test

import (
	"fmt"
	"math/rand"
	"slices"
	"testing"

	"ribband/api"
	"ribband/strake"
)

// The examples of the chapter, and others.
const (
	girthsS = "strake 2 2 4 1 2\ngirth 5..6\ngirth 7\ngirth 6..7\n"
	textS   = girthsS + "mark 0 1 3\n"
	textC   = textS + "mark 2 1 1\n"                                         // there is no boat
	textN   = "strake 2 2 4 1 0\ngirth 5\ngirth 7\ngirth 6\nmark 0 0 1..2\n" // no girths are fair
	textO   = "strake 1 3 5 0 9\ngirth 3..5\ngirth 4..6\n"                   // fair girths are a boat only if they are equal
)

const (
	most  = int(^uint(0) >> 1)
	least = -most - 1
)

func to(a, b int) api.Span { return api.Span{Low: a, High: b} }

func one(n int) api.Span { return to(n, n) }

func mark(frame, strake int, x api.Span) api.StrakeMark {
	return api.StrakeMark{Frame: frame, Strake: strake, Width: x}
}

func parse(t *testing.T, text string) api.StrakeBook {
	t.Helper()
	b, line, s := strake.Parse(text)
	if s != api.Clear {
		t.Fatal(text, line, s)
	}
	return b
}

func printed(t *testing.T, b api.StrakeBook) string {
	t.Helper()
	text, s := strake.Print(b)
	if s != api.Clear {
		t.Fatal(b, s)
	}
	return text
}

func clone(b api.StrakeBook) api.StrakeBook {
	b.Girths, b.Marks = slices.Clone(b.Girths), slices.Clone(b.Marks)
	return b
}

func isIn(x api.Span, n int) bool { return n >= x.Low && n <= x.High }

func distance(a, b int) int {
	if a < b {
		return b - a
	}
	return a - b
}

func sum(list []int) int {
	n := 0
	for _, x := range list {
		n += x
	}
	return n
}

func samePlan(a, b [][]int) bool { return slices.EqualFunc(a, b, slices.Equal) }

func comparePlans(a, b [][]int) int { return slices.Compare(slices.Concat(a...), slices.Concat(b...)) }

// changeOf returns by how much all widths of a plan change, strake by strake.
func changeOf(plan [][]int) int {
	n := 0
	for strake := range plan[0] {
		for frame := range plan[1:] {
			n += distance(plan[frame][strake], plan[frame+1][strake])
		}
	}
	return n
}

// isPlan asks of a plan what the chapter does, one thing after the other.
func isPlan(b api.StrakeBook, g []int, plan [][]int) bool {
	for frame, list := range plan {
		if sum(list) != g[frame] || slices.Min(list) < b.Least || slices.Max(list) > b.Most {
			return false
		}
	}
	for frame := range plan[1:] {
		for strake, width := range plan[frame] {
			if distance(width, plan[frame+1][strake]) > b.Taper {
				return false
			}
		}
	}
	return !slices.ContainsFunc(b.Marks, func(m api.StrakeMark) bool { return !isIn(m.Width, plan[m.Frame][m.Strake]) })
}

// rowsOf returns all widths at a frame that are together a girth, and for which marks are right, the least list first.
func rowsOf(b api.StrakeBook, frame, girth int) (good [][]int) {
	rows := [][]int{nil}
	for range b.Strakes {
		var longer [][]int
		for _, row := range rows {
			for width := b.Least; width <= b.Most; width++ {
				longer = append(longer, append(slices.Clone(row), width))
			}
		}
		rows = longer
	}
	for _, row := range rows {
		wrong := slices.ContainsFunc(b.Marks, func(m api.StrakeMark) bool { return m.Frame == frame && !isIn(m.Width, row[m.Strake]) })
		if sum(row) == girth && !wrong {
			good = append(good, row)
		}
	}
	return good
}

func isNear(b api.StrakeBook, row, next []int) bool {
	for strake := range row {
		if distance(row[strake], next[strake]) > b.Taper {
			return false
		}
	}
	return true
}

// plansOf returns all plans of girths, the first one first.
func plansOf(b api.StrakeBook, g []int) [][][]int {
	plans := [][][]int{nil}
	for frame, girth := range g {
		rows := rowsOf(b, frame, girth)
		var longer [][][]int
		for _, plan := range plans {
			for _, row := range rows {
				if frame == 0 || isNear(b, plan[frame-1], row) {
					longer = append(longer, append(slices.Clone(plan), row))
				}
			}
		}
		plans = longer
	}
	return plans
}

// hasPlan follows all widths that can be reached from the first frame on.
func hasPlan(b api.StrakeBook, g []int) bool {
	reached := rowsOf(b, 0, g[0])
	for frame := range g[1:] {
		before := reached
		reached = slices.DeleteFunc(rowsOf(b, frame+1, g[frame+1]), func(row []int) bool {
			return !slices.ContainsFunc(before, func(x []int) bool { return isNear(b, x, row) })
		})
	}
	return len(reached) > 0
}

func isFair(b api.StrakeBook, g []int) bool {
	for frame, x := range b.Girths {
		if !isIn(x, g[frame]) {
			return false
		}
		if frame > 0 && frame < len(g)-1 && distance(g[frame-1]+g[frame+1], 2*g[frame]) > b.Bend {
			return false
		}
	}
	return true
}

// waysOf returns all girths of the spans, ascending.
func waysOf(b api.StrakeBook) [][]int {
	ways := [][]int{nil}
	for _, x := range b.Girths {
		var longer [][]int
		for _, g := range ways {
			for girth := x.Low; girth <= x.High; girth++ {
				longer = append(longer, append(slices.Clone(g), girth))
			}
		}
		ways = longer
	}
	return ways
}

// oracle finds everything about a book by going through all girths of its spans, and all plans of these.
type oracle struct {
	book  api.StrakeBook
	fair  [][]int
	boats [][]int
	plans [][][][]int // of each boat
}

func newOracle(b api.StrakeBook) *oracle {
	o := &oracle{book: b}
	for _, g := range waysOf(b) {
		if !isFair(b, g) {
			continue
		}
		o.fair = append(o.fair, g)
		if plans := plansOf(b, g); len(plans) > 0 {
			o.boats, o.plans = append(o.boats, g), append(o.plans, plans)
		}
	}
	return o
}

// snag is what functions return that need a boat.
func (o *oracle) snag() api.Snag {
	if len(o.boats) == 0 {
		return api.Foul
	}
	return api.Clear
}

// scant is what functions return that need fair girths.
func (o *oracle) scant() api.Snag {
	if len(o.fair) == 0 {
		return api.Scant
	}
	return api.Clear
}

func (o *oracle) has(g []int) bool {
	return slices.ContainsFunc(o.boats, func(x []int) bool { return slices.Equal(x, g) })
}

func (o *oracle) count(frame, girth int) int {
	n := 0
	for _, g := range o.boats {
		if g[frame] == girth {
			n++
		}
	}
	return n
}

func (o *oracle) girths(frame int) (list []int) {
	for n := range api.MaxStrakeGirth + 1 {
		if o.count(frame, n) > 0 {
			list = append(list, n)
		}
	}
	return list
}

func (o *oracle) widths(frame, strake int) api.Span {
	var list []int
	for _, plans := range o.plans {
		for _, plan := range plans {
			list = append(list, plan[frame][strake])
		}
	}
	if len(list) == 0 {
		return api.Span{}
	}
	return to(slices.Min(list), slices.Max(list))
}

// sound tells how sound a book is, unless no girths are fair.
func sound(b api.StrakeBook, fair [][]int) api.Sure {
	yes, no := false, false
	for _, g := range fair {
		if hasPlan(b, g) {
			yes = true
		} else {
			no = true
		}
	}
	switch {
	case yes == no:
		return api.Open
	case yes:
		return api.Yes
	}
	return api.No
}

// withStrakes returns a book with another number of strakes.
func withStrakes(b api.StrakeBook, strakes int) api.StrakeBook {
	marks := b.Marks
	b.Strakes, b.Marks = strakes, nil
	for _, m := range marks {
		if m.Strake < strakes {
			b.Marks = append(b.Marks, m)
		}
	}
	return b
}

func (o *oracle) numbers() (surely, perhaps []int) {
	if len(o.fair) == 0 {
		return nil, nil
	}
	for strakes := range api.MaxStrakeStrakes + 1 {
		if strakes == 0 {
			continue
		}
		sure := sound(withStrakes(o.book, strakes), o.fair)
		if sure == api.Yes {
			surely = append(surely, strakes)
		}
		if sure == api.Yes || sure == api.Open {
			perhaps = append(perhaps, strakes)
		}
	}
	return surely, perhaps
}

// only returns a book with the marks of a set of numbers, and the list of these.
func only(b api.StrakeBook, set int) (api.StrakeBook, []int) {
	var list []int
	x := b
	x.Marks = nil
	for i, m := range b.Marks {
		if set>>i&1 > 0 {
			list = append(list, i)
			x.Marks = append(x.Marks, m)
		}
	}
	return x, list
}

// isLess tells whether a list comes before another one by the number of its elements, and then by these.
func isLess(a, b []int) bool {
	if len(a) != len(b) {
		return len(a) < len(b)
	}
	return slices.Compare(a, b) < 0
}

// clash also tells all lists of marks with which alone there is no boat.
func (o *oracle) clash() (best []int, all [][]int, s api.Snag) {
	for set := range 1 << len(o.book.Marks) {
		x, list := only(o.book, set)
		if slices.ContainsFunc(o.fair, func(g []int) bool { return hasPlan(x, g) }) {
			continue
		}
		if len(list) == 0 {
			return nil, nil, api.Scant
		}
		all = append(all, list)
		if best == nil || isLess(list, best) {
			best = list
		}
	}
	return best, all, api.Clear
}

func (o *oracle) ask() (frame, left int) {
	frame, left = -1, len(o.boats)
	for i := range o.book.Girths {
		worst := 0
		for n := range api.MaxStrakeGirth + 1 {
			worst = max(worst, o.count(i, n))
		}
		if worst < left {
			frame, left = i, worst
		}
	}
	return frame, left
}

func some(r *rand.Rand, x api.Span) int { return x.Low + r.Intn(x.High-x.Low+1) }

// randomPlan returns widths within the limits of a book.
func randomPlan(r *rand.Rand, b api.StrakeBook, frames int) (plan [][]int) {
	row := make([]int, b.Strakes)
	for strake := range row {
		row[strake] = some(r, to(b.Least, b.Most))
	}
	for range frames {
		plan = append(plan, slices.Clone(row))
		for strake, width := range row {
			row[strake] = some(r, to(max(width-b.Taper, b.Least), min(width+b.Taper, b.Most)))
		}
	}
	return plan
}

func girthsOf(plan [][]int) (g []int) {
	for _, row := range plan {
		g = append(g, sum(row))
	}
	return g
}

// markAbout returns a mark that is right about a plan.
func markAbout(r *rand.Rand, plan [][]int) api.StrakeMark {
	frame := r.Intn(len(plan))
	strake := r.Intn(len(plan[frame]))
	width := plan[frame][strake]
	return mark(frame, strake, to(max(width-r.Intn(2), 0), min(width+r.Intn(2), api.MaxStrakeWidth)))
}

// randomBook returns a book whose girths and marks are about some plan, but are not always right. It has so few widths that all plans can be gone through.
func randomBook(r *rand.Rand) api.StrakeBook {
	b := api.StrakeBook{Strakes: 1 + r.Intn(api.MaxStrakeStrakes), Taper: r.Intn(3), Bend: 1 + r.Intn(12)}
	spread := r.Intn([...]int{5, 5, 3, 2}[b.Strakes-1])
	b.Least = 1 + r.Intn(3)
	if r.Intn(2) == 0 {
		b.Least = 1 + r.Intn(api.MaxStrakeWidth-spread)
	}
	b.Most = b.Least + spread
	if r.Intn(6) == 0 {
		b.Taper = r.Intn(api.MaxStrakeTaper + 1)
	}
	if r.Intn(6) == 0 {
		b.Bend = r.Intn(api.MaxStrakeBend + 1)
	}
	plan := randomPlan(r, b, 2+r.Intn(api.MaxStrakeFrames-1))
	for _, girth := range girthsOf(plan) {
		if r.Intn(8) == 0 {
			girth += r.Intn(7) - 3
		}
		b.Girths = append(b.Girths, to(max(girth-r.Intn(2), 0), max(girth, 0)+r.Intn(2)))
	}
	for range r.Intn(api.MaxStrakeMarks + 1) {
		if r.Intn(4) == 0 {
			plan = randomPlan(r, b, len(b.Girths))
		}
		m := markAbout(r, plan)
		if r.Intn(6) == 0 {
			m.Width = one(min(m.Width.High+1, api.MaxStrakeWidth))
		}
		b.Marks = append(b.Marks, m)
	}
	return b
}

// randomGirths returns girths near those of a book, or others.
func randomGirths(r *rand.Rand, b api.StrakeBook) (g []int) {
	if r.Intn(2) == 0 {
		return girthsOf(randomPlan(r, b, len(b.Girths)))
	}
	for _, x := range b.Girths {
		n := some(r, x) + r.Intn(5)/2*(r.Intn(5)-2)
		if r.Intn(20) == 0 {
			n = r.Intn(api.MaxStrakeGirth + 1)
		}
		g = append(g, min(max(n, 0), api.MaxStrakeGirth))
	}
	return g
}

// eachBook tries books that are the same in each run.
func eachBook(t *testing.T, many int, try func(t *testing.T, b api.StrakeBook, o *oracle, r *rand.Rand)) {
	t.Helper()
	r := rand.New(rand.NewSource(5))
	for i := range many {
		b := randomBook(r)
		o := newOracle(b)
		t.Run(fmt.Sprint(i), func(t *testing.T) {
			try(t, b, o, r)
			if t.Failed() {
				t.Log(b)
			}
		})
	}
}
