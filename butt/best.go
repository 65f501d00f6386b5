package butt

import (
	"slices"
	"sync"

	"ribband/api"
	"ribband/terms"
)

// verdict is with how many boats boards do for a layout, and what they cost in the boat in which they cost the most.
type verdict struct{ boats, cost int }

// bench is where layouts are looked at, with all boats.
type bench struct {
	checked
	boats  []boards
	looked map[layout]verdict
}

// bench makes a bench, unless there is no boat.
func (c checked) bench() (bench, api.Snag) {
	boats := slices.Collect(c.boats())
	if len(boats) == 0 {
		return bench{}, api.Foul
	}
	return bench{c, boats, map[layout]verdict{}}, api.Clear
}

// look looks at a layout, whether it keeps the rules or not.
func (h bench) look(l layout) verdict {
	same := h.sorted(l)
	v, done := h.looked[same]
	if !done {
		v = h.judge(same)
		h.looked[same] = v
	}
	return v
}

// sorted returns the layout with the same planks, the short ones first. For boards it makes no difference where a plank is, so that one look does for all layouts that have the same ones.
func (b book) sorted(l layout) layout {
	for strake := range b.Strakes {
		planks := b.planks(l[strake])
		slices.Sort(planks)
		l[strake] = 0
		frame := 0
		for _, long := range planks[:len(planks)-1] {
			frame += long
			l[strake] |= 1 << frame
		}
	}
	slices.Sort(l[:b.Strakes])
	return l
}

// judge tries all boats at once; which one is ready first makes no difference.
func (h bench) judge(l layout) verdict {
	var v verdict
	var lock sync.Mutex
	var group sync.WaitGroup
	for _, boat := range h.boats {
		group.Add(1)
		go func() {
			defer group.Done()
			taken := h.take(l, boat)
			if !taken.found {
				return
			}
			lock.Lock()
			defer lock.Unlock()
			v.boats++
			v.cost = max(v.cost, taken.least)
		}()
	}
	group.Wait()
	return v
}

// can tells how sure it is that a layout can be planked.
func (h bench) can(l layout) api.Sure {
	if !h.keeps(l) {
		return api.No
	}
	return terms.SureOf(h.look(l).boats, len(h.boats))
}

// cost returns what a layout costs in the boat in which it costs the most.
func (h bench) cost(l layout) int { return h.look(l).cost }

// best returns the layout that surely can be planked and has the least of something, of several the least one, and how much it has.
func (h bench) best(measure func(layout) int) (lists [][]int, much int, found bool) {
	var c choice[layout]
	for l := range h.layouts() {
		if much := measure(l); c.wants(much) && h.look(l).boats == len(h.boats) {
			c.offer(l, much)
		}
	}
	if !c.found {
		return nil, 0, false
	}
	return h.lists(c.best), c.least, true
}
