package spile

import (
	"slices"
	"sync"

	"ribband/api"
	"ribband/terms"
)

// edges has how many boats there are, and how many of them have which gaps: boats with the same gaps lie on the board alike.
type edges struct {
	checked
	all  int
	with map[row]int
}

// edges counts the boats by all of their gaps, unless there is no boat.
func (c checked) edges() (edges, api.Snag) {
	e := edges{checked: c, with: map[row]int{}}
	for x := range c.boats() {
		e.all++
		e.with[c.gaps(x)]++
	}
	if e.all == 0 {
		return edges{}, api.Foul
	}
	return e, api.Clear
}

// fit is a number by which gaps are shifted, and how many boats have gaps that lie on the board then.
type fit struct{ shift, boats int }

func (f fit) isBetter(than fit) bool {
	return f.boats > than.boats || f.boats == than.boats && f.shift < than.shift
}

// most returns the number by which shifted the gaps of the most boats lie on the board, the least one of several. All are tried at once; which one is ready first makes no difference.
func (e edges) most() fit {
	var best fit
	var lock sync.Mutex
	var group sync.WaitGroup
	for _, shift := range e.lows() {
		group.Add(1)
		go func() {
			defer group.Done()
			f := fit{shift, e.lying(shift)}
			lock.Lock()
			defer lock.Unlock()
			if f.isBetter(best) {
				best = f
			}
		}()
	}
	group.Wait()
	return best
}

// lows returns, for all gaps that can lie on the board, the least number by which they can be shifted. One of these does for the most boats, and no lesser number does for as many: from a number that is none of them one less does no worse.
func (e edges) lows() []int {
	var list []int
	for gaps := range e.with {
		if x, found := e.shifts(gaps); found {
			list = append(list, x.Low)
		}
	}
	slices.Sort(list)
	return slices.Compact(list)
}

// lying returns how many boats have gaps that lie on the board, shifted by a number.
func (e edges) lying(shift int) int {
	many := 0
next:
	for gaps, boats := range e.with {
		for point := range len(e.Points) {
			if !terms.Has(e.free(point), gaps[point]+shift) {
				continue next
			}
		}
		many += boats
	}
	return many
}

// surely returns the least number by which shifted the gaps of all boats lie on the board, if there is one.
func (e edges) surely() (shift int, found bool) {
	best := e.most()
	if best.boats < e.all {
		return 0, false
	}
	return best.shift, true
}
