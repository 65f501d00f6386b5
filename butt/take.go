package butt

import (
	"iter"
	"slices"

	"ribband/api"
)

// choice is the first one of those that have the least of something.
type choice[T any] struct {
	best  T
	least int
	found bool
}

// wants tells whether what has so much is better than all that came before.
func (c choice[T]) wants(much int) bool { return !c.found || much < c.least }

func (c *choice[T]) offer(x T, much int) {
	if c.wants(much) {
		*c = choice[T]{x, much, true}
	}
}

// shortest returns the shortest boards that do for a layout, unless there is no board for a plank that is so long.
func (b book) shortest(l layout) (boards, bool) {
	var x boards
	for _, planks := range b.allPlanks(l) {
		for _, long := range planks {
			kind := slices.IndexFunc(b.Kinds, func(k api.ButtKind) bool { return k.Long >= long })
			if kind < 0 {
				return boards{}, false
			}
			x[kind]++
		}
	}
	return x, true
}

// instead yields the boards that are as many as the shortest ones that do, and do too, with no more of a kind than there are, the least list first.
func (b book) instead(shortest, have boards) iter.Seq[boards] {
	return func(yield func(boards) bool) {
		var x boards
		var fill func(kind, planks int) bool
		fill = func(kind, planks int) bool { // so many shorter planks have no board yet
			if kind == len(b.Kinds) {
				return planks > 0 || yield(x)
			}
			planks += shortest[kind]
			for many := range min(have[kind], planks) + 1 {
				x[kind] = many
				if !fill(kind+1, planks-many) {
					return false
				}
			}
			return true
		}
		fill(0, 0)
	}
}

func (b book) cost(x boards) int {
	cost := 0
	for kind, k := range b.Kinds {
		cost += k.Cost * x[kind]
	}
	return cost
}

// take finds the boards that cost the least of those that do for a layout, whether it keeps the rules or not.
func (b book) take(l layout, have boards) choice[boards] {
	var c choice[boards]
	if shortest, ok := b.shortest(l); ok {
		for x := range b.instead(shortest, have) {
			c.offer(x, b.cost(x))
		}
	}
	return c
}
