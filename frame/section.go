package frame

import (
	"slices"
	"sort"

	"ribband/api"
)

// breadths has the breadth of each point. What is behind the last point is 0.
type breadths [api.MaxFramePoints]int

func breadthsOf(list []int) breadths {
	var x breadths
	copy(x[:], list)
	return x
}

// list returns the breadths of all points of a frame.
func (b book) list(x breadths) []int { return slices.Clone(x[:len(b.Points)]) }

// root returns the greatest number whose square is not above n.
func root(n int) int {
	return sort.Search(n+1, func(r int) bool { return r*r > n }) - 1
}

// floor returns a divided by n, which is above 0, rounded down.
func floor(a, n int) int {
	if a%n < 0 {
		return a/n - 1
	}
	return a / n
}

// at returns the breadth at a height of the frame.
func (b book) at(x breadths, height int) int {
	next := 1
	for height > b.Points[next].Height {
		next++
	}
	rise, wider := b.step(x, next)
	return x[next-1] + floor(wider*(height-b.Points[next-1].Height), rise)
}

// step returns how much higher, and how much broader, a point is than the one before it.
func (b book) step(x breadths, point int) (rise, wider int) {
	return b.Points[point].Height - b.Points[point-1].Height, x[point] - x[point-1]
}

// girths returns the girths between any two points.
func (b book) girths(x breadths) map[stretch]int {
	all := map[stretch]int{}
	for from := range len(b.Points) {
		sum := 0
		for to := from + 1; to < len(b.Points); to++ {
			rise, wider := b.step(x, to)
			sum += root(rise*rise + wider*wider)
			all[stretch{from, to}] = sum
		}
	}
	return all
}

// area returns twice the area.
func (b book) area(x breadths) int {
	sum := 0
	for point := 1; point < len(b.Points); point++ {
		rise, _ := b.step(x, point)
		sum += (x[point-1] + x[point]) * rise
	}
	return sum
}

// inner returns the breadths of the frame within the planks.
func (b book) inner(x breadths) []int {
	list := b.list(x)
	for point, breadth := range list {
		list[point] = max(breadth-b.Plank, 0)
	}
	return list
}

// level is a height of a frame.
type level struct {
	book
	height int
}

func (l level) breadth(x breadths) int { return l.at(x, l.height) }

// stick is a stick that is held up at a level.
type stick struct {
	level
	long int
}

func (k stick) fits(x breadths) bool { return k.breadth(x) >= k.long }

// taped is a stretch of a frame.
type taped struct {
	book
	stretch
}

func (t taped) girth(x breadths) int { return t.girths(x)[t.stretch] }
