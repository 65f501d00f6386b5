package steam_test

import (
	"fmt"
	"math/rand"
	"slices"
	"testing"

	"ribband/api"
	"ribband/steam"
)

// The example of the chapter, and books that are like it.
const (
	planksV = "plank keel 4 2 3\nplank rib 2..3 2 2\nplank arm 3 1 4\n"
	headV   = "steam 2 1 12\n" + planksV
	textV   = headV + "note 0+1 6..7\n"
	textC   = textV + "note 0 5\nnote 1 2\n" // a note that no boat has, by itself
	textD   = headV + "note 1 2\nnote 1+2 6\n"
	textO   = "steam 1 1 9\nplank a 1 3 2\n" // a plank that is always hung cold
	textT   = "steam 2 1 7\n" + planksV      // a tide that sometimes comes too soon
	textW   = "steam 2 2 30\nplank a 3..5 4 9\nplank b 2..4 3 6\nplank c 6 2 3\nplank d 1..2 5 5\n"
)

const (
	most  = int(^uint(0) >> 1)
	least = -most - 1
)

func to(a, b int) api.Span { return api.Span{Low: a, High: b} }

func one(n int) api.Span { return to(n, n) }

func on(list ...int) []int { return list }

func note(x api.Span, planks ...int) api.SteamNote { return api.SteamNote{Planks: planks, Sum: x} }

// done are works: when planks are in, out, begun and done.
func done(list ...int) (all []api.SteamWork) {
	for i := 0; i < len(list); i += 4 {
		all = append(all, api.SteamWork{In: list[i], Out: list[i+1], Begun: list[i+2], Done: list[i+3]})
	}
	return all
}

func parse(t *testing.T, text string) api.SteamBook {
	t.Helper()
	b, line, s := steam.Parse(text)
	if s != api.Clear {
		t.Fatal(text, line, s)
	}
	return b
}

func printed(t *testing.T, b api.SteamBook) string {
	t.Helper()
	text, s := steam.Print(b)
	if s != api.Clear {
		t.Fatal(b, s)
	}
	return text
}

func clone(b api.SteamBook) api.SteamBook {
	b.Planks = slices.Clone(b.Planks)
	b.Notes = slices.Clone(b.Notes)
	for i := range b.Notes {
		b.Notes[i].Planks = slices.Clone(b.Notes[i].Planks)
	}
	return b
}

// worked works a plan tick by tick.
func worked(b api.SteamBook, l, plan []int) []api.SteamWork {
	w := make([]api.SteamWork, len(l))
	busy := make([]int, b.Hands) // for how many ticks from now on
	var box, waiting, rest []int
	rest = plan
	for now := 0; len(rest)+len(box)+len(waiting) > 0; now++ {
		var stay []int
		for _, plank := range box { // in the order of the plan
			if w[plank].In+l[plank] > now {
				stay = append(stay, plank)
				continue
			}
			w[plank].Out = now
			waiting = append(waiting, plank)
		}
		box = stay
		for len(rest) > 0 && len(box) < b.Places {
			w[rest[0]].In = now
			box, rest = append(box, rest[0]), rest[1:]
		}
		for hand := range busy {
			if busy[hand] == 0 && len(waiting) > 0 {
				busy[hand] = b.Planks[waiting[0]].Hang
				w[waiting[0]].Begun, w[waiting[0]].Done = now, now+busy[hand]
				waiting = waiting[1:]
			}
			busy[hand] = max(busy[hand]-1, 0)
		}
	}
	return w
}

func isCold(b api.SteamBook, w []api.SteamWork, plank int) bool {
	return w[plank].Done > w[plank].Out+b.Planks[plank].Soft
}

func coldOf(b api.SteamBook, w []api.SteamWork) (list []int) {
	for plank := range w {
		if isCold(b, w, plank) {
			list = append(list, plank)
		}
	}
	return list
}

func endOf(w []api.SteamWork) int {
	var list []int
	for _, x := range w {
		list = append(list, x.Done)
	}
	return slices.Max(list)
}

func isGood(b api.SteamBook, w []api.SteamWork) bool {
	return len(coldOf(b, w)) == 0 && endOf(w) <= b.Tide
}

func agrees(b api.SteamBook, l []int) bool {
	for _, n := range b.Notes {
		sum := 0
		for i, x := range l {
			if slices.Contains(n.Planks, i) {
				sum += x
			}
		}
		if sum < n.Sum.Low || sum > n.Sum.High {
			return false
		}
	}
	return true
}

// seen is what can be seen of a plan in all boats: in how many of them it is good, and each plank is cold.
type seen struct {
	plan []int
	good int
	cold []int
	ends api.Span
}

// oracle finds everything about a book by going through all times of its planks, and all plans.
type oracle struct {
	book  api.SteamBook
	ways  [][]int // times of the spans, ascending
	boats [][]int
	plans [][]int        // all plans, ascending
	seen  map[int][]seen // of each plan, with so many hands
}

func newOracle(b api.SteamBook) *oracle {
	o := &oracle{book: b, ways: waysOf(b), plans: plansOf(len(b.Planks)), seen: map[int][]seen{}}
	for _, l := range o.ways {
		if agrees(b, l) {
			o.boats = append(o.boats, l)
		}
	}
	return o
}

func waysOf(b api.SteamBook) [][]int {
	ways := [][]int{nil}
	for _, p := range b.Planks {
		var longer [][]int
		for _, l := range ways {
			for n := p.Steam.Low; n <= p.Steam.High; n++ {
				longer = append(longer, append(slices.Clone(l), n))
			}
		}
		ways = longer
	}
	return ways
}

// plansOf takes, of all lists of so many indexes, those that have each one.
func plansOf(planks int) (all [][]int) {
	many := 1
	for range planks {
		many *= planks
	}
	for n := range many {
		l := make([]int, planks)
		has := map[int]bool{}
		for i := planks - 1; i >= 0; i-- {
			l[i] = n % planks
			has[l[i]] = true
			n /= planks
		}
		if len(has) == planks {
			all = append(all, l)
		}
	}
	return all
}

// look looks at a plan with so many hands; of a book with a boat.
func (o *oracle) look(plan []int, hands int) seen {
	b := o.book
	b.Hands = hands
	x := seen{plan: plan, cold: make([]int, len(plan))}
	for i, l := range o.boats {
		w := worked(b, l, plan)
		for plank := range plan {
			if isCold(b, w, plank) {
				x.cold[plank]++
			}
		}
		if isGood(b, w) {
			x.good++
		}
		end := endOf(w)
		if i == 0 {
			x.ends = one(end)
		}
		x.ends = to(min(x.ends.Low, end), max(x.ends.High, end))
	}
	return x
}

// looks looks at all plans with so many hands.
func (o *oracle) looks(hands int) []seen {
	if o.seen[hands] == nil {
		for _, plan := range o.plans {
			o.seen[hands] = append(o.seen[hands], o.look(plan, hands))
		}
	}
	return o.seen[hands]
}

// snag is what functions return that need a boat.
func (o *oracle) snag() api.Snag {
	if len(o.boats) == 0 {
		return api.Foul
	}
	return api.Clear
}

// sure tells how sure it is what is so in many boats.
func (o *oracle) sure(many int) api.Sure {
	switch {
	case len(o.boats) == 0:
		return api.Open
	case many == len(o.boats):
		return api.Yes
	case many == 0:
		return api.No
	}
	return api.Open
}

// surely returns what was seen of the plans that are good for sure with so many hands.
func (o *oracle) surely(hands int) (list []seen) {
	for _, x := range o.looks(hands) {
		if len(o.boats) > 0 && x.good == len(o.boats) {
			list = append(list, x)
		}
	}
	return list
}

func (o *oracle) soonest() (best seen, found bool) {
	for _, x := range o.surely(o.book.Hands) {
		if !found || x.ends.High < best.ends.High {
			best, found = x, true
		}
	}
	return best, found
}

func (o *oracle) fewest() int {
	for hands := 1; hands <= api.MaxSteamHands; hands++ {
		if len(o.surely(hands)) > 0 {
			return hands
		}
	}
	return 0
}

func (o *oracle) has(l []int) bool {
	return slices.ContainsFunc(o.boats, func(x []int) bool { return slices.Equal(x, l) })
}

func (o *oracle) count(plank, time int) int {
	n := 0
	for _, l := range o.boats {
		if l[plank] == time {
			n++
		}
	}
	return n
}

func (o *oracle) times(plank int) (list []int) {
	for n := range api.MaxSteamTicks + 1 {
		if o.count(plank, n) > 0 {
			list = append(list, n)
		}
	}
	return list
}

// only returns a book with the notes of a set of numbers, and the list of these.
func only(b api.SteamBook, set int) (api.SteamBook, []int) {
	var list []int
	x := b
	x.Notes = nil
	for i, n := range b.Notes {
		if set>>i&1 > 0 {
			list = append(list, i)
			x.Notes = append(x.Notes, n)
		}
	}
	return x, list
}

// isLess tells whether a list comes before another one by the number of its elements, and then by these.
func isLess(a, b []int) bool {
	if len(a) != len(b) {
		return len(a) < len(b)
	}
	return slices.Compare(a, b) < 0
}

// clash also tells all lists of notes with which alone there is no boat.
func (o *oracle) clash() (best []int, all [][]int) {
	for set := range 1 << len(o.book.Notes) {
		x, list := only(o.book, set)
		if slices.ContainsFunc(o.ways, func(l []int) bool { return agrees(x, l) }) {
			continue
		}
		all = append(all, list)
		if best == nil || isLess(list, best) {
			best = list
		}
	}
	return best, all
}

func (o *oracle) ask() (plank, left int) {
	plank, left = -1, len(o.boats)
	for i := range o.book.Planks {
		worst := 0
		for n := range api.MaxSteamTicks + 1 {
			worst = max(worst, o.count(i, n))
		}
		if worst < left {
			plank, left = i, worst
		}
	}
	return plank, left
}

func some(r *rand.Rand, x api.Span) int { return x.Low + r.Intn(x.High-x.Low+1) }

func anyOf[T any](r *rand.Rand, list []T) T { return list[r.Intn(len(list))] }

func randomPlank(r *rand.Rand, name string, size int) api.SteamPlank {
	low := 1 + r.Intn(size)
	p := api.SteamPlank{Name: name, Steam: to(low, min(low+r.Intn(api.MaxSteamWide), api.MaxSteamTicks)), Hang: 1 + r.Intn(size)}
	p.Soft = min(p.Hang+r.Intn(1+size), api.MaxSteamTicks)
	if r.Intn(12) == 0 {
		p.Soft = 1 + r.Intn(p.Hang)
	}
	return p
}

// noteAbout returns a note that is right about times.
func noteAbout(r *rand.Rand, l []int) api.SteamNote {
	var n api.SteamNote
	for len(n.Planks) == 0 {
		for i, x := range l {
			if r.Intn(2) == 0 {
				n.Planks = append(n.Planks, i)
				n.Sum = to(n.Sum.Low+x, n.Sum.High+x)
			}
		}
	}
	n.Sum = to(max(n.Sum.Low-r.Intn(2), 0), min(n.Sum.High+r.Intn(2), api.MaxSteamSum))
	return n
}

func names() [api.MaxSteamPlanks]string { return [...]string{"keel", "b2", "zzzzzzzzz9", "a"} }

// randomBook returns a book whose notes are about some times, but are not always right, and whose tide often, but not always, leaves time enough.
func randomBook(r *rand.Rand) api.SteamBook {
	b := api.SteamBook{Places: anyOf(r, on(1, 2, 2, 3)), Hands: anyOf(r, on(1, 1, 1, 2, 2, 3))}
	size := anyOf(r, on(4, 6, 6, api.MaxSteamTicks))
	for i := range anyOf(r, on(1, 2, 3, 3, 4, 4)) {
		b.Planks = append(b.Planks, randomPlank(r, names()[i], size))
	}
	ways, plans := waysOf(b), plansOf(len(b.Planks))
	l := anyOf(r, ways)
	b.Tide = min(max(endOf(worked(b, l, anyOf(r, plans)))+r.Intn(2*size)-1, 0), api.MaxSteamTide)
	for range r.Intn(api.MaxSteamNotes + 1) {
		if r.Intn(3) == 0 {
			l = anyOf(r, ways)
		}
		n := noteAbout(r, l)
		if r.Intn(5) == 0 {
			n.Sum = one(n.Sum.High + 1)
		}
		b.Notes = append(b.Notes, n)
	}
	return b
}

// randomTimes returns times near those of a book, or others.
func randomTimes(r *rand.Rand, b api.SteamBook) (l []int) {
	for _, p := range b.Planks {
		n := p.Steam.Low + r.Intn(5) - 1
		if r.Intn(20) == 0 {
			n = 1 + r.Intn(api.MaxSteamTicks)
		}
		l = append(l, min(max(n, 1), api.MaxSteamTicks))
	}
	return l
}

// anyPlan returns a plan, often one that is good for sure.
func (o *oracle) anyPlan(r *rand.Rand) []int {
	if good := o.surely(o.book.Hands); len(good) > 0 && r.Intn(3) > 0 {
		return slices.Clone(anyOf(r, good).plan)
	}
	return slices.Clone(anyOf(r, o.plans))
}

// eachBook tries books that are the same in each run.
func eachBook(t *testing.T, many int, try func(t *testing.T, b api.SteamBook, o *oracle, r *rand.Rand)) {
	t.Helper()
	r := rand.New(rand.NewSource(9))
	for i := range many {
		b := randomBook(r)
		o := newOracle(b)
		t.Run(fmt.Sprint(i), func(t *testing.T) {
			try(t, b, o, r)
			if t.Failed() {
				t.Log(b)
			}
		})
	}
}
