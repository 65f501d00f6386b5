package strake

import (
	"slices"

	"ribband/terms"
)

// onward is how widths go on to the last frame: in how many ways, and by how much all widths change on the straightest one.
type onward struct{ ways, change int }

// look is what is seen of girths: for each frame, how its divisions go on, but for those that do not.
type look struct {
	book
	girths girths
	on     []map[widths]onward
}

// look looks at girths from the last frame to the first one: plans are too many to be gone through one by one.
func (b book) look(g girths) look {
	l := look{b, g, make([]map[widths]onward, len(b.Girths))}
	for behind := range len(b.Girths) {
		frame := len(b.Girths) - 1 - behind
		l.on[frame] = map[widths]onward{}
		for w := range b.divisions(frame, g[frame]) {
			if on := l.goOn(frame+1, w); on.ways > 0 {
				l.on[frame][w] = on
			}
		}
	}
	return l
}

// goOn returns how widths go on at the frame behind them.
func (l look) goOn(frame int, from widths) onward {
	if frame == len(l.on) {
		return onward{ways: 1}
	}
	var sum onward
	for to, on := range l.on[frame] {
		change, near := l.change(frame, from, to)
		if !near {
			continue
		}
		change += on.change
		if sum.ways == 0 || change < sum.change {
			sum.change = change
		}
		sum.ways += on.ways
	}
	return sum
}

// plans returns how many plans there are, and by how much all widths change in the straightest one.
func (l look) plans() onward { return l.goOn(0, widths{}) }

// stride is where a plan goes at a frame, and by how much all widths change up to there, and on from there at least.
type stride struct {
	to   widths
	much int
}

func (s stride) change() int { return s.much }

// strides returns where plans go at a frame from the widths before it, the least list first.
func (l look) strides(frame int, from widths) []stride {
	var list []stride
	for to := range l.divisions(frame, l.girths[frame]) {
		on, goesOn := l.on[frame][to]
		change, near := l.change(frame, from, to)
		if goesOn && near {
			list = append(list, stride{to, change + on.change})
		}
	}
	return list
}

// plan returns the first plan whose strides are the best ones.
func (l look) plan(decides ...func(a, b stride) int) (plan [][]int, found bool) {
	var from widths
	for frame := range len(l.on) {
		best, found := terms.Best(slices.Values(l.strides(frame, from)), decides...)
		if !found {
			return nil, false
		}
		plan = append(plan, slices.Clone(best.to[:l.Strakes]))
		from = best.to
	}
	return plan, true
}
