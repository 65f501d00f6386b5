package batten_test

import (
	"fmt"
	"math/rand"
	"slices"
	"sort"
	"testing"

	"ribband/api"
	"ribband/batten"
)

// The examples of the chapter.
const (
	textB = "batten 3 3 1\nmark 10\nmark 12..13\nmark 13..14\nmark 13..14\n"
	textC = "batten 3 2 2\nmark 14\nmark 13\nmark 11..12\n"
	// no line is fair by these marks, and one line in two of those is
	textNone = "batten 0 0 0\nmark 0\nmark 5\nmark 0\n"
	textOpen = "batten 1 1 0\nmark 0..2\nmark 1\nmark 0..2\n"
)

func to(a, b int) api.Span { return api.Span{Low: a, High: b} }

func one(n int) api.Span { return to(n, n) }

func parse(t *testing.T, text string) api.BattenBook {
	t.Helper()
	b, line, s := batten.Parse(text)
	if s != api.Clear {
		t.Fatal(text, line, s)
	}
	return b
}

func printed(t *testing.T, b api.BattenBook) string {
	t.Helper()
	text, s := batten.Print(b)
	if s != api.Clear {
		t.Fatal(b, s)
	}
	return text
}

// bends, twists and turns are told here from one height or bend to the next, as the chapter says them.
func bends(l []int) (list []int) {
	for i := 1; i+1 < len(l); i++ {
		list = append(list, l[i-1]+l[i+1]-2*l[i])
	}
	return list
}

func twists(l []int) (list []int) {
	for i := 1; i+2 < len(l); i++ {
		before, here := l[i-1]+l[i+1]-2*l[i], l[i]+l[i+2]-2*l[i+1]
		list = append(list, here-before)
	}
	return list
}

func turns(l []int) int {
	var signs []bool
	for _, n := range bends(l) {
		if n != 0 {
			signs = append(signs, n > 0)
		}
	}
	n := 0
	for i := 1; i < len(signs); i++ {
		if signs[i] != signs[i-1] {
			n++
		}
	}
	return n
}

func strain(l []int) int {
	n := 0
	for _, bend := range bends(l) {
		n += bend * bend
	}
	return n
}

func fair(b api.BattenBook, l []int) bool {
	for _, n := range bends(l) {
		if n > b.Bend || n < -b.Bend {
			return false
		}
	}
	for _, n := range twists(l) {
		if n > b.Twist || n < -b.Twist {
			return false
		}
	}
	return turns(l) <= b.Turns
}

func obeys(l []int, rules []api.BattenRule) bool {
	for _, r := range rules {
		if rise := l[r.B] - l[r.A]; rise < r.Rise.Low || rise > r.Rise.High {
			return false
		}
	}
	return true
}

// oracle finds everything about a book by going through all lines of its marks.
type oracle struct {
	book  api.BattenBook
	fair  [][]int // lines of the marks, ascending
	boats [][]int
}

func newOracle(b api.BattenBook) *oracle {
	o := &oracle{book: b}
	many := 1
	for _, m := range b.Marks {
		many *= m.High - m.Low + 1
	}
	for n := range many {
		l := make([]int, len(b.Marks))
		for i := len(l) - 1; i >= 0; i-- {
			wide := b.Marks[i].High - b.Marks[i].Low + 1
			l[i] = b.Marks[i].Low + n%wide
			n /= wide
		}
		if fair(b, l) {
			o.fair = append(o.fair, l)
			if obeys(l, b.Rules) {
				o.boats = append(o.boats, l)
			}
		}
	}
	return o
}

// snag is what functions return that need a boat.
func (o *oracle) snag() api.Snag {
	if len(o.boats) == 0 {
		return api.Foul
	}
	return api.Clear
}

func (o *oracle) has(l []int) bool {
	return slices.ContainsFunc(o.boats, func(x []int) bool { return slices.Equal(x, l) })
}

func (o *oracle) count(station, height int) int {
	n := 0
	for _, x := range o.boats {
		if x[station] == height {
			n++
		}
	}
	return n
}

func (o *oracle) heights(station int) (list []int) {
	for h := range api.MaxBattenHeight + 1 {
		if o.count(station, h) > 0 {
			list = append(list, h)
		}
	}
	return list
}

func (o *oracle) hollow(station int) api.Sure {
	yes, no := false, false
	for _, x := range o.boats {
		if bends(x)[station-1] > 0 {
			yes = true
		} else {
			no = true
		}
	}
	switch {
	case yes == no:
		return api.Open
	case yes:
		return api.Yes
	}
	return api.No
}

// first returns the boat whose key, with its own heights behind it, is the least list.
func (o *oracle) first(key func(l []int) []int) []int {
	if len(o.boats) == 0 {
		return nil
	}
	return slices.MinFunc(o.boats, func(x, y []int) int {
		return slices.Compare(append(key(x), x...), append(key(y), y...))
	})
}

func (o *oracle) straightest() []int {
	return o.first(func(l []int) []int { return []int{strain(l)} })
}

func far(l, x []int) (sum, most int, stations []int) {
	for i := range l {
		d := l[i] - x[i]
		if d < 0 {
			d = -d
		}
		sum += d
		most = max(most, d)
		if d != 0 {
			stations = append(stations, i)
		}
	}
	return sum, most, stations
}

func (o *oracle) nearest(l []int) []int {
	return o.first(func(x []int) []int {
		sum, most, _ := far(l, x)
		return []int{sum, most}
	})
}

func (o *oracle) pulled(l []int) []int {
	if len(o.boats) == 0 {
		return nil
	}
	var all [][]int
	for _, x := range o.boats {
		_, _, stations := far(l, x)
		all = append(all, stations)
	}
	sort.Slice(all, func(i, j int) bool { return isLess(all[i], all[j]) })
	return all[0]
}

// isLess tells whether a list comes before another one by the number of its elements, and then by these.
func isLess(a, b []int) bool {
	if len(a) != len(b) {
		return len(a) < len(b)
	}
	return slices.Compare(a, b) < 0
}

func (o *oracle) must(l []int) (list []int) {
	for i, h := range l {
		if len(o.boats) > 0 && o.count(i, h) == 0 {
			list = append(list, i)
		}
	}
	return list
}

// clash also tells all lists of rules with which alone there is no boat.
func (o *oracle) clash() (best []int, all [][]int, s api.Snag) {
	if len(o.fair) == 0 {
		return nil, nil, api.Scant
	}
	for set := range 1 << len(o.book.Rules) {
		var list []int
		var rules []api.BattenRule
		for i, r := range o.book.Rules {
			if set>>i&1 == 1 {
				list = append(list, i)
				rules = append(rules, r)
			}
		}
		if !slices.ContainsFunc(o.fair, func(l []int) bool { return obeys(l, rules) }) {
			all = append(all, list)
			if best == nil || isLess(list, best) {
				best = list
			}
		}
	}
	return best, all, api.Clear
}

func (o *oracle) worst(station int) int {
	n := 0
	for h := range api.MaxBattenHeight + 1 {
		n = max(n, o.count(station, h))
	}
	return n
}

func (o *oracle) ask() (at, left int) {
	at, left = -1, len(o.boats)
	for i := range o.book.Marks {
		if n := o.worst(i); n < left {
			at, left = i, n
		}
	}
	return at, left
}

// randomBook returns a book whose marks lie near some line, so that many of them have boats, and many have none.
func randomBook(r *rand.Rand) api.BattenBook {
	n := 3 + r.Intn(4)
	if r.Intn(12) == 0 {
		n = 7
	}
	b := api.BattenBook{Bend: 1 + r.Intn(6), Twist: 1 + r.Intn(9), Turns: r.Intn(4)}
	if r.Intn(8) == 0 {
		b.Bend, b.Twist = r.Intn(2), r.Intn(2)
	}
	height, rise := 3+r.Intn(900), r.Intn(9)-4
	for range n {
		low := min(max(height-r.Intn(2), 0), api.MaxBattenHeight-2)
		b.Marks = append(b.Marks, to(low, low+r.Intn(api.MaxBattenWide)))
		rise += r.Intn(5) - 2
		height = min(max(height+rise, 0), api.MaxBattenHeight)
	}
	some := func(m api.Span) int { return m.Low + r.Intn(m.High-m.Low+1) }
	for range max(r.Intn(2*api.MaxBattenRules+1)-api.MaxBattenRules, 0) {
		a := r.Intn(n - 1)
		c := a + 1 + r.Intn(n-a-1)
		low := some(b.Marks[c]) - some(b.Marks[a])
		b.Rules = append(b.Rules, api.BattenRule{A: a, B: c, Rise: to(low, low+r.Intn(4)/2)})
	}
	return b
}

// randomLine returns a line near the marks of a book, or somewhere else.
func randomLine(r *rand.Rand, b api.BattenBook) []int {
	var l []int
	for _, m := range b.Marks {
		h := m.Low + r.Intn(4) - 1
		if r.Intn(20) == 0 {
			h = r.Intn(api.MaxBattenHeight + 1)
		}
		l = append(l, min(max(h, 0), api.MaxBattenHeight))
	}
	return l
}

// eachBook tries books that are the same in each run.
func eachBook(t *testing.T, many int, try func(t *testing.T, b api.BattenBook, o *oracle, r *rand.Rand)) {
	t.Helper()
	r := rand.New(rand.NewSource(2))
	for i := range many {
		b := randomBook(r)
		o := newOracle(b)
		t.Run(fmt.Sprint(i), func(t *testing.T) {
			try(t, b, o, r)
			if t.Failed() {
				t.Log(b)
			}
		})
	}
}
