package strake

import (
	"iter"
	"slices"

	"ribband/api"
	"ribband/terms"
)

// equal divides a girth into widths of which none is greater than another one by more than one, the lesser ones first.
func equal(girth, strakes int) []int {
	list := make([]int, strakes)
	for strake := range list {
		list[strake] = (girth + strake) / strakes
	}
	return list
}

// girths has the girth of each frame. What is behind the last frame is 0.
type girths [api.MaxStrakeFrames]int

// widths has the width of each strake at a frame. What is behind the last strake is 0.
type widths [api.MaxStrakeStrakes]int

func widthsOf(list []int) widths {
	var w widths
	copy(w[:], list)
	return w
}

// divisions yields the widths at a frame that are, together, a girth, and for which marks are right, the least list first.
func (b book) divisions(frame, girth int) iter.Seq[widths] {
	return func(yield func(widths) bool) {
		var w widths
		var fill func(strake, rest int) bool
		fill = func(strake, rest int) bool {
			if strake == b.Strakes {
				return rest > 0 || yield(w)
			}
			for width := b.Least; width <= min(b.Most, rest); width++ {
				if !b.agrees(place{frame, strake}, width) {
					continue
				}
				w[strake] = width
				if !fill(strake+1, rest-width) {
					return false
				}
			}
			return true
		}
		fill(0, girth)
	}
}

// agrees tells whether all marks of a place are right about a width.
func (b book) agrees(p place, width int) bool {
	return !slices.ContainsFunc(b.Marks, func(m api.StrakeMark) bool {
		return p == place{m.Frame, m.Strake} && !terms.Has(m.Width, width)
	})
}

// change returns by how much the widths of all strakes change up to a frame, unless one of them changes by more than it may. Nothing is before the first frame.
func (b book) change(frame int, from, to widths) (change int, ok bool) {
	if frame == 0 {
		return 0, true
	}
	for strake := range b.Strakes {
		much := max(to[strake]-from[strake], from[strake]-to[strake])
		if much > b.Taper {
			return 0, false
		}
		change += much
	}
	return change, true
}

// isPlan tells whether a plan is one of some girths, by which all marks are right.
func (b book) isPlan(g girths, plan [][]int) bool {
	var from widths
frames:
	for frame := range len(b.Girths) {
		for to := range b.divisions(frame, g[frame]) {
			if _, near := b.change(frame, from, to); near && to == widthsOf(plan[frame]) {
				from = to
				continue frames
			}
		}
		return false
	}
	return true
}
