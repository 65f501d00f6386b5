package yard_test

import (
	"math/rand"
	"slices"
	"strings"
	"testing"

	"ribband/api"
	"ribband/batten"
	"ribband/bevel"
	"ribband/butt"
	"ribband/frame"
	"ribband/mould"
	"ribband/offsets"
	"ribband/spile"
	"ribband/steam"
	"ribband/strake"
	"ribband/yard"
)

// truth is the boat that is really built: what she is in each part.
type truth struct {
	wrong, measures []int
	line            []int
	breadths        []int
	lengths         []int
	girths          []int
	plan            [][]int
	numbers         []int
	marks           []int
	slip            api.SpileSlip
	offsets, misses []int
	times           []int
}

// boats tells of which parts of a book she is a boat.
func (x truth) boats(b api.YardBook) (is [9]bool) {
	is[0], _ = offsets.IsBoat(b.Table, x.wrong, x.measures)
	is[1], _ = batten.IsBoat(b.Line, x.line)
	is[2], _ = frame.IsBoat(b.Frame, x.breadths)
	is[3], _ = mould.IsBoat(b.Mould, x.lengths)
	is[4], _ = strake.IsBoat(b.Strakes, x.girths)
	is[5], _ = butt.IsBoat(b.Butts, x.numbers)
	is[6], _ = spile.IsBoat(b.Spile, x.marks, x.slip)
	is[7], _ = bevel.IsBoat(b.Bevel, x.offsets, x.misses)
	is[8], _ = steam.IsBoat(b.Steam, x.times)
	return is
}

// anyOrNone is one of the lists, if there is one.
func anyOrNone(r *rand.Rand, lists [][]int) []int {
	if len(lists) == 0 {
		return nil
	}
	return slices.Clone(anyOf(r, lists))
}

// chosen is one of the lists of some spans that is a boat.
func chosen[B any](r *rand.Rand, b B, isBoat func(B, []int) (bool, api.Snag), spans []api.Span) []int {
	return anyOrNone(r, slices.DeleteFunc(ways(spans...), func(l []int) bool {
		is, _ := isBoat(b, l)
		return !is
	}))
}

func itself(x api.Span) api.Span { return x }

// trueBoat is a boat of all parts, if each one has a boat.
func trueBoat(r *rand.Rand, b api.YardBook) (truth, bool) {
	if many, _ := yard.Boats(b); slices.Contains(many, 0) {
		return truth{}, false
	}
	x := truth{
		line:     chosen(r, b.Line, batten.IsBoat, b.Line.Marks),
		breadths: chosen(r, b.Frame, frame.IsBoat, spansOf(b.Frame.Points, func(x api.FramePoint) api.Span { return x.Breadth })),
		lengths:  chosen(r, b.Mould, mould.IsBoat, spansOf(b.Mould.Pieces, func(x api.MouldPiece) api.Span { return x.Length })),
		girths:   chosen(r, b.Strakes, strake.IsBoat, b.Strakes.Girths),
		numbers:  chosen(r, b.Butts, butt.IsBoat, spansOf(b.Butts.Kinds, func(x api.ButtKind) api.Span { return x.Many })),
		times:    chosen(r, b.Steam, steam.IsBoat, spansOf(b.Steam.Planks, func(x api.SteamPlank) api.Span { return x.Steam })),
	}
	x.plan, _, _ = strake.Plan(b.Strakes, x.girths)
	marks := ways(spansOf(b.Spile.Points, func(x api.SpilePoint) api.Span { return x.Mark })...)
	all := ways(spansOf(b.Bevel.Offsets, itself)...)
	can := cellsOf(b.Table)
	for range 200 {
		if is := x.boats(b); !is[0] {
			x.wrong, x.measures = anyCells(r, b.Table, can)
		} else if !is[6] {
			x.marks, x.slip = anyOrNone(r, marks), api.SpileSlip{}
			if by := r.Intn(2*b.Spile.Slip+1) - b.Spile.Slip; by != 0 {
				x.slip = api.SpileSlip{Before: 1 + r.Intn(len(b.Spile.Points)-1), By: by}
			}
		} else if !is[7] {
			x.offsets, x.misses = anyOrNone(r, all), anySome(r, len(b.Bevel.Readings), b.Bevel.Wrong)
		} else {
			return x, is == [9]bool{true, true, true, true, true, true, true, true, true}
		}
	}
	return truth{}, false
}

// anySome is a list of indexes of so many things, ascending, with most of them at most.
func anySome(r *rand.Rand, many, most int) []int {
	list := r.Perm(many)[:r.Intn(min(many, most)+1)]
	slices.Sort(list)
	return list
}

// cellsOf is what each cell can be, in order.
func cellsOf(b api.OffsetsTable) (all [][]int) {
	cells, _ := offsets.Cells(b)
	for _, c := range cells {
		can, _ := offsets.Can(b, c)
		all = append(all, can)
	}
	return all
}

// anyCells are cells that are wrong, and a measure for each cell.
func anyCells(r *rand.Rand, b api.OffsetsTable, can [][]int) (wrong, measures []int) {
	for _, list := range can {
		measures = append(measures, anyOf(r, append(slices.Clone(list), 0)))
	}
	return anySome(r, len(can), b.Wrong), measures
}

// around is a span in which a number is.
func around(r *rand.Rand, n, from, upTo int) api.Span {
	return to(max(n-r.Intn(3), from), min(n+r.Intn(3), upTo))
}

// partly is a figure of a measure of which perhaps some parts cannot be read.
func partly(r *rand.Rand, measure int) string {
	figure, _ := offsets.Figure(measure)
	parts := strings.Split(figure, "-")
	for range r.Intn(3) {
		parts[r.Intn(3)] = "?"
	}
	return strings.Join(parts, "-")
}

// enter is an entry that is right about her, if there is one of its kind. What is rotten or dropped changes what she is.
func (x *truth) enter(r *rand.Rand, b api.YardBook, kind api.YardKind) (e api.YardEntry, found bool) {
	e = api.YardEntry{Hand: r.Intn(2), Kind: kind}
	switch kind {
	case api.YardFigure:
		cells, _ := offsets.Cells(b.Table)
		if len(cells) == 0 {
			return e, false
		}
		i := r.Intn(len(cells))
		if cells[i].Butt {
			e.A = 1
		}
		e.B, e.C, e.S = cells[i].Line, cells[i].Station, partly(r, x.measures[i])
		return e, !slices.Contains(x.wrong, i)
	case api.YardHeight:
		e.A = r.Intn(len(x.line))
		e.M = around(r, x.line[e.A], 0, api.MaxBattenHeight)
	case api.YardTape:
		e.B = 1 + r.Intn(len(x.breadths)-1)
		e.A = r.Intn(e.B)
		n, _ := frame.Girth(b.Frame, x.breadths, e.A, e.B)
		e.M = around(r, n, 0, api.MaxFrameGirth)
	case api.YardStick:
		e.A = b.Frame.Points[1].Height - r.Intn(3)
		n, _ := frame.At(b.Frame, x.breadths, e.A)
		e.B = n + r.Intn(3) - 1
		if n >= e.B {
			e.C = 1
		}
	case api.YardLength:
		e.A = r.Intn(len(x.lengths))
		e.M = around(r, x.lengths[e.A], 1, api.MaxMouldLong)
	case api.YardLose:
		e.A = r.Intn(max(len(b.Mould.Boards), 1))
		return e, len(b.Mould.Boards) > 0
	case api.YardMark:
		e.A, e.B = r.Intn(len(x.plan)), r.Intn(b.Strakes.Strakes)
		e.M = around(r, x.plan[e.A][e.B], 0, api.MaxStrakeWidth)
	case api.YardRotten:
		e.A = r.Intn(len(x.numbers))
		if x.numbers[e.A] == 0 {
			return e, false
		}
		x.numbers[e.A]--
	case api.YardCheck:
		gaps, _ := spile.Gaps(b.Spile, x.marks, x.slip)
		e.A = r.Intn(len(gaps))
		e.M = around(r, gaps[e.A], -api.MaxSpileGap, api.MaxSpileGap)
	case api.YardBevel:
		bevels, _ := bevel.Bevels(b.Bevel, x.offsets)
		e.A = r.Intn(len(bevels))
		e.M = around(r, bevels[e.A], -api.MaxBevelBevel, api.MaxBevelBevel)
		return e, len(b.Bevel.Readings) < api.MaxBevelReadings
	case api.YardDrop:
		e.A = r.Intn(max(len(b.Bevel.Readings), 1))
		x.drop(e.A)
		return e, len(b.Bevel.Readings) > 0
	case api.YardTime:
		e.A = r.Intn(len(x.times))
		e.M = around(r, x.times[e.A], 1, api.MaxSteamTicks)
	default:
		return e, false
	}
	return e, true
}

// drop drops a reading: later ones have other indexes then.
func (x *truth) drop(reading int) {
	var misses []int
	for _, i := range x.misses {
		if i < reading {
			misses = append(misses, i)
		} else if i > reading {
			misses = append(misses, i-1)
		}
	}
	x.misses = misses
}

// Whatever the true boat is, if what is entered of her is right, she is a boat of each part behind it (P0.4, P10.11).
func TestP10_11WhateverSheIs(t *testing.T) {
	entered, boats := map[api.YardKind]int{}, 0
	eachBook(t, 500, func(t *testing.T, b api.YardBook, r *rand.Rand) {
		x, ok := trueBoat(r, b)
		if !ok {
			return
		}
		boats++
		now := b
		var l []api.YardEntry
		for range 40 {
			if len(l) == api.MaxYardEntries {
				break
			}
			e, found := x.enter(r, now, api.YardKind(r.Intn(14)))
			if !found {
				continue
			}
			next, s := yard.Do(now, e)
			if s == api.Many {
				continue // there are too many tapes, say
			}
			if s != api.Clear {
				t.Error("what is right is refused", b, x, l, e, s)
			}
			entered[e.Kind]++
			l, now = append(l, e), next
		}
		snags, end, s := yard.Play(b, l)
		if !equal(end, now) || s != api.Clear || slices.ContainsFunc(snags, func(s api.Snag) bool { return s != api.Clear }) {
			t.Error(b, l, snags, s)
		}
		if slices.Contains(on9(x.boats(end)), false) {
			t.Error("she is no boat any more", b, x, l, x.boats(end))
		}
		if l, s := yard.Boats(end); slices.Contains(l, 0) || s != api.Clear {
			t.Error(b, l, s)
		}
	})
	if boats < 100 {
		t.Error("too few boats", boats)
	}
	for kind := api.YardFigure; kind < api.YardPay; kind++ {
		if entered[kind] < 30 {
			t.Error("too little is entered", entered)
		}
	}
}

func on9(is [9]bool) []bool { return is[:] }

// What is struck was right or wrong: what is left of a journal that is right about her is right, too.
func TestP10_11Struck(t *testing.T) {
	struck := 0
	eachBook(t, 300, func(t *testing.T, b api.YardBook, r *rand.Rand) {
		x, ok := trueBoat(r, b)
		if !ok {
			return
		}
		var l []api.YardEntry
		for len(l) < 10 {
			kind := anyOf(r, []api.YardKind{api.YardHeight, api.YardLength, api.YardTime, api.YardFigure})
			if e, found := x.enter(r, b, kind); found {
				l = append(l, e)
			}
		}
		for range 2 {
			i := r.Intn(10)
			l = append(l, strike(l[i].Hand, i+1))
		}
		snags, now, _ := yard.Play(b, l)
		for i, s := range snags {
			if s != api.Clear && (i < 10 || s != api.Absent) {
				t.Error(b, x, l, snags)
			}
		}
		struck += 2
		if slices.Contains(on9(x.boats(now)), false) {
			t.Error(b, x, l)
		}
	})
	if struck < 100 {
		t.Error("too little is struck", struck)
	}
}

// The plane of any breadths that she can have at a height lies within what is told (P10.11).
func TestP10_11Plane(t *testing.T) {
	tried := 0
	eachBook(t, 400, func(t *testing.T, b api.YardBook, r *rand.Rand) {
		b.Table = parsed(t, offsets.Parse, anyOf(r, []string{textZ, textT}))
		can := cellsOf(b.Table)
		wrong, measures := anyCells(r, b.Table, can)
		for range 20 {
			if is, _ := offsets.IsBoat(b.Table, wrong, measures); is {
				break
			}
			wrong, measures = anyCells(r, b.Table, can)
		}
		if is, _ := offsets.IsBoat(b.Table, wrong, measures); !is {
			return
		}
		tried++
		cells, _ := offsets.Cells(b.Table)
		var breadths [3]int
		for i, c := range cells {
			if c.Butt {
				continue
			}
			x, _ := offsets.Breadth(b.Table, c.Station, 64)
			breadths[c.Station] = x.Low + r.Intn(x.High-x.Low+1)
			if !slices.Contains(wrong, i) {
				breadths[c.Station] = measures[i]
			}
		}
		gap := 1 + r.Intn(99)
		x, s := yard.Plane(b, 64, gap)
		if n := weighed(breadths, gap); n < x.Low || n > x.High || s != api.Clear {
			t.Error(b.Table, wrong, measures, gap, n, x, s)
		}
	})
	if tried < 100 {
		t.Error("too few boats", tried)
	}
}

// What a book leaves open is found by who says more: once all of her that can be measured is, she is the only boat (P0.5).
func TestP0_5WhatIsMissing(t *testing.T) {
	open := 0
	eachBook(t, 300, func(t *testing.T, b api.YardBook, r *rand.Rand) {
		x, ok := trueBoat(r, b)
		if !ok {
			return
		}
		before, _ := yard.Boats(b)
		for part, l := range map[int][]api.YardEntry{1: measured(api.YardHeight, x.line), 3: measured(api.YardLength, x.lengths), 8: measured(api.YardTime, x.times)} {
			_, now, s := yard.Play(b, l)
			after, _ := yard.Boats(now)
			if after[part] != 1 || s != api.Clear {
				t.Error(b, x, part, after, s)
			}
			if yes, _, _ := yard.Ask(now, ask(api.YardSettled, part)); !yes {
				t.Error(b, x, part)
			}
			if before[part] > 1 {
				open++
			}
			after[part] = before[part]
			if !slices.Equal(after, before) {
				t.Error("other parts are changed", b, part, before, after)
			}
		}
	})
	if open < 50 {
		t.Error("books are too much alike", open)
	}
}

// measured are entries that tell all numbers.
func measured(kind api.YardKind, numbers []int) (l []api.YardEntry) {
	for i, n := range numbers {
		l = append(l, api.YardEntry{Kind: kind, A: i, M: one(n)})
	}
	return l
}

// What becomes known never adds a boat, and never spoils a proof of what is sure (P0.6).
func TestP0_6KnowingMore(t *testing.T) {
	known, proved := map[api.YardKind]int{}, map[api.YardQuestion]int{}
	learns := []api.YardKind{api.YardFigure, api.YardHeight, api.YardTape, api.YardStick, api.YardLength, api.YardMark, api.YardCheck, api.YardTime}
	surely := []api.YardQuestion{api.YardCut, api.YardPlanked, api.YardShift, api.YardHands, api.YardSettled}
	eachBook(t, 400, func(t *testing.T, b api.YardBook, r *rand.Rand) {
		for range 8 {
			e := likelyOf(r, b, 0, anyOf(r, learns))
			now, s := yard.Do(b, e)
			if s != api.Clear {
				continue
			}
			known[e.Kind]++
			before, _ := yard.Boats(b)
			after, _ := yard.Boats(now)
			for part := range before {
				if after[part] > before[part] || part != partOf[e.Kind] && after[part] != before[part] {
					t.Error(b, e, before, after)
				}
			}
			for _, kind := range surely {
				q := ask(kind, numberOf(r, kind))
				yes, proof, _ := yard.Ask(b, q)
				if !yes {
					continue
				}
				proved[kind]++
				if right, s := yard.Judge(now, q, proof); !right || s != api.Clear {
					t.Error("a proof is spoiled", b, e, q, proof, s)
				}
				if still, _, s := yard.Ask(now, q); !still || s != api.Clear {
					t.Error("it was sure", b, e, q, s)
				}
			}
			b = now
		}
	})
	for _, kind := range learns {
		if known[kind] < 30 {
			t.Error("too little becomes known", known)
		}
	}
	for _, kind := range surely {
		if proved[kind] < 30 {
			t.Error("too little is proved", proved)
		}
	}
}
