package butt

import (
	"iter"
	"math/bits"
	"slices"

	"ribband/api"
	"ribband/terms"
)

// butts has a bit for each frame on which a strake has a butt.
type butts uint

func buttsOn(frames []int) butts {
	var x butts
	for _, frame := range frames {
		x |= 1 << frame
	}
	return x
}

// frames returns the frames of butts, ascending.
func (x butts) frames() []int {
	var list []int
	for frame := range api.MaxButtFrames {
		if x>>frame&1 > 0 {
			list = append(list, frame)
		}
	}
	return list
}

// count returns how many butts there are.
func (x butts) count() int { return bits.OnesCount(uint(x)) }

// layout has the butts of each strake. What is behind the last strake has none.
type layout [api.MaxButtStrakes]butts

func layoutOf(lists [][]int) layout {
	var l layout
	for strake, frames := range lists {
		l[strake] = buttsOn(frames)
	}
	return l
}

// lists returns the frames of the butts of all strakes.
func (b book) lists(l layout) [][]int {
	var lists [][]int
	for strake := range b.Strakes {
		lists = append(lists, l[strake].frames())
	}
	return lists
}

// moved returns how many butts are only in one of two layouts.
func (l layout) moved(to layout) int {
	many := 0
	for strake, x := range to {
		many += (x ^ l[strake]).count()
	}
	return many
}

// planks returns the lengths of the planks of a strake with these butts.
func (b book) planks(x butts) []int {
	return terms.Steps(slices.Concat([]int{0}, x.frames(), []int{b.Frames}))
}

// allPlanks returns the lengths of the planks of each strake.
func (b book) allPlanks(l layout) [][]int {
	var lists [][]int
	for strake := range b.Strakes {
		lists = append(lists, b.planks(l[strake]))
	}
	return lists
}

// many returns how many planks a layout has.
func (b book) many(l layout) int { return b.Strakes + l.moved(layout{}) }

// ways returns the butts that a strake can have without a plank that is too short, the least list first.
func (b book) ways() []butts {
	var all []butts
	var fill func(x butts, from int)
	fill = func(x butts, from int) {
		if b.Frames-from >= b.Least {
			all = append(all, x)
		}
		for frame := from + b.Least; frame < b.Frames; frame++ {
			fill(x|1<<frame, frame)
		}
	}
	fill(0, 0)
	return all
}

// apart returns by how many frames butts of strakes differ at least that are so many strakes from each other.
func (b book) apart(strakes int) int {
	frames := 0
	if strakes == 1 {
		frames = b.Gap
	}
	if strakes <= b.Between {
		frames = max(frames, 1)
	}
	return frames
}

// areApart tells whether butts of two strakes differ by so many frames.
func areApart(x, y butts, frames int) bool {
	for less := range frames {
		if x&(y<<less|y>>less) > 0 {
			return false
		}
	}
	return true
}

// among yields the layouts in which each strake has one of its own choices of butts, and which have them far enough from each other; the first choices first.
func (b book) among(choices [][]butts) iter.Seq[layout] {
	return func(yield func(layout) bool) {
		var l layout
		var fill func(strake int) bool
		fill = func(strake int) bool {
			if strake == b.Strakes {
				return yield(l)
			}
		next:
			for _, x := range choices[strake] {
				for before := range strake {
					if !areApart(l[before], x, b.apart(strake-before)) {
						continue next
					}
				}
				l[strake] = x
				if !fill(strake + 1) {
					return false
				}
			}
			return true
		}
		fill(0)
	}
}

// layouts yields all layouts that keep the rules, the least one first.
func (b book) layouts() iter.Seq[layout] {
	return b.among(slices.Repeat([][]butts{b.ways()}, b.Strakes))
}

// keeps tells whether a layout keeps the rules.
func (b book) keeps(l layout) bool {
	ways := b.ways()
	var choices [][]butts
	for _, x := range l[:b.Strakes] {
		if !slices.Contains(ways, x) {
			return false
		}
		choices = append(choices, []butts{x})
	}
	return terms.IsAny(b.among(choices))
}
