package steam

import (
	"slices"

	"ribband/api"
	"ribband/terms"
)

// works is what is done with each plank, by its index. What is behind the last plank is zero.
type works [api.MaxSteamPlanks]api.SteamWork

// trial is a plan that is tried with one boat after the other. It keeps what was worked, as more than one question is asked about the same times.
type trial struct {
	checked
	plan   []int
	worked map[times]works
}

// trial returns one for a single use: nobody else writes to what it keeps.
func (c checked) trial(plan []int) trial { return trial{c, plan, map[times]works{}} }

func (t trial) work(x times) works {
	w, found := t.worked[x]
	if !found {
		w = t.workOff(x)
		t.worked[x] = w
	}
	return w
}

// workOff puts all planks into the box first, and hangs them then: no plank that is hung later makes a difference to the box.
func (t trial) workOff(x times) works {
	var w works
	box := make(turns, t.Places)
	for _, plank := range t.plan {
		in := box.take(0, x[plank])
		w[plank] = api.SteamWork{In: in, Out: in + x[plank]}
	}
	hands := make(turns, t.Hands)
	for _, plank := range t.leaving(w) {
		hang := t.Planks[plank].Hang
		begun := hands.take(w[plank].Out, hang)
		w[plank].Begun, w[plank].Done = begun, begun+hang
	}
	return w
}

// turns is from when on each place of the box is free, or each hand.
type turns []int

// take takes the one that is free first, for so many ticks, but not before a time. It returns when that begins.
func (t turns) take(from, ticks int) int {
	first := slices.Index(t, slices.Min(t))
	begun := max(t[first], from)
	t[first] = begun + ticks
	return begun
}

// leaving returns the planks in the order in which they leave the box.
func (t trial) leaving(w works) []int {
	list := slices.Clone(t.plan)
	slices.SortStableFunc(list, terms.Least(func(plank int) int { return w[plank].Out }))
	return list
}

// end returns when all planks are done.
func (t trial) end(x times) int {
	end := 0
	for _, w := range t.work(x) {
		end = max(end, w.Done)
	}
	return end
}

// fate is what became of a plank: nothing of it, if it was hung well.
type fate struct{ cold, late bool }

func (t trial) fate(plank int, x times) fate {
	w := t.work(x)[plank]
	return fate{cold: w.Done-w.Out > t.Planks[plank].Soft, late: w.Done > t.Tide}
}

// cold returns the planks that are hung cold, ascending.
func (t trial) cold(x times) []int {
	var list []int
	for plank := range t.Planks {
		if t.fate(plank, x).cold {
			list = append(list, plank)
		}
	}
	return list
}

// isGood tells whether a boat leaves the plan good.
func (t trial) isGood(x times) bool {
	for plank := range t.Planks {
		if t.fate(plank, x) != (fate{}) {
			return false
		}
	}
	return true
}

// good tells how sure it is that the plan is good, unless there is no boat.
func (t trial) good() (api.Sure, api.Snag) { return terms.Sure(t.boats(), t.isGood) }

// ends returns the span from the soonest to the latest end, unless there is no boat.
func (t trial) ends() (api.Span, api.Snag) { return terms.SpanOf(t.boats(), t.end) }
