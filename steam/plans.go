package steam

import (
	"iter"
	"slices"
	"sync"

	"ribband/api"
	"ribband/terms"
)

// plans yields all plans, the least list first.
func (b book) plans() iter.Seq[[]int] {
	return func(yield func([]int) bool) {
		var fill func(plan []int) bool
		fill = func(plan []int) bool {
			if len(plan) == len(b.Planks) {
				return yield(slices.Clone(plan))
			}
			for plank := range b.Planks {
				if !slices.Contains(plan, plank) && !fill(append(plan, plank)) {
					return false
				}
			}
			return true
		}
		fill(nil)
	}
}

// view is what was seen of a plan in all boats.
type view struct {
	plan []int
	good api.Sure
	ends api.Span
}

func (v view) isGood() bool { return v.good == api.Yes }

func (v view) latest() int { return v.ends.High }

// view looks at a plan. There is to be a boat.
func (c checked) view(plan []int) view {
	t := c.trial(plan)
	good, _ := t.good()
	ends, _ := t.ends()
	return view{plan, good, ends}
}

const viewers = 4 // who look at plans at the same time

// views looks at all plans, and returns what was seen of the least one first. There is to be a boat.
func (c checked) views() []view {
	plans := slices.Collect(c.plans())
	views := make([]view, len(plans))
	next := make(chan int)
	var group sync.WaitGroup
	for range viewers {
		group.Add(1)
		go func() {
			defer group.Done()
			for i := range next {
				views[i] = c.view(plans[i])
			}
		}()
	}
	for i := range plans {
		next <- i
	}
	close(next)
	group.Wait()
	return views
}

// search is for the first one that has the least of something, of those of several that do.
type search[T any] struct {
	does func(T) bool
	much func(T) int
}

// find returns what a search is for, if any one does.
func find[T any](all []T, s search[T]) (first T, found bool) {
	some := slices.DeleteFunc(slices.Clone(all), func(x T) bool { return !s.does(x) })
	return terms.Best(slices.Values(some), terms.Least(s.much))
}

// soonest returns what was seen of the plan that is good for sure and whose latest end is the soonest, if there is one.
func (c checked) soonest() (view, bool) {
	return find(c.views(), search[view]{does: view.isGood, much: view.latest})
}

// of returns the book with so many hands.
func (c checked) of(hands int) checked {
	c.Hands = hands
	return c
}

// fewest returns the fewest hands with which some plan is good for sure, if there are any.
func (c checked) fewest() (fewest int, found bool) {
hands:
	for n := range api.MaxSteamHands {
		for _, v := range c.of(n + 1).views() {
			if v.isGood() {
				fewest, found = n+1, true
				break hands
			}
		}
	}
	return fewest, found
}
