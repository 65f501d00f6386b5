package batten

import (
	"slices"
	"sync"

	"ribband/api"
	"ribband/terms"
)

// with returns the book with just these of its rules.
func (c checked) with(rules []int) checked {
	c.Rules = terms.Pick(c.Rules, rules)
	return c
}

// clash returns the first list of rules with which alone there is no boat, if there is one. All lists are tried at once; which one is ready first makes no difference.
func (c checked) clash() (rules []int, found bool) {
	all := slices.Collect(terms.Lists(len(c.Rules), len(c.Rules)))
	sound, foul := make(chan int), make(chan int)
	var group sync.WaitGroup
	for i, list := range all {
		group.Add(1)
		go func() {
			defer group.Done()
			if terms.IsAny(c.with(list).boats()) {
				sound <- i
			} else {
				foul <- i
			}
		}()
	}
	first := len(all)
	for range all {
		select {
		case <-sound:
		case i := <-foul:
			first = min(first, i)
		}
	}
	group.Wait()
	if first == len(all) {
		return nil, false
	}
	return all[first], true
}

// copyOf returns a book in memory of its own.
func copyOf(b api.BattenBook) api.BattenBook {
	b.Marks = slices.Clone(b.Marks)
	b.Rules = slices.Clone(b.Rules)
	return b
}

// news returns a new book, unless it has a snag or no boat.
func news(b api.BattenBook) (api.BattenBook, api.Snag) {
	c, s := open(b)
	if s != api.Clear {
		return api.BattenBook{}, s
	}
	if !terms.IsAny(c.boats()) {
		return api.BattenBook{}, api.Foul
	}
	return b, api.Clear
}

// splice returns the book of a batten spliced of two, if their marks have something in common where they meet.
func splice(a, b checked, over int) (api.BattenBook, bool) {
	shift := len(a.Marks) - over
	both := api.BattenBook{
		Bend:  min(a.Bend, b.Bend),
		Twist: min(a.Twist, b.Twist),
		Turns: min(a.Turns, b.Turns),
		Marks: slices.Concat(a.Marks, b.Marks[over:]),
		Rules: slices.Clone(a.Rules),
	}
	for station := range over {
		mark, ok := terms.Common(a.Marks[shift+station], b.Marks[station])
		if !ok {
			return api.BattenBook{}, false
		}
		both.Marks[shift+station] = mark
	}
	for _, r := range b.Rules {
		r.A += shift
		r.B += shift
		both.Rules = append(both.Rules, r)
	}
	return both, true
}
