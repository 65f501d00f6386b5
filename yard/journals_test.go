package yard_test

import (
	"math/rand"
	"slices"
	"testing"

	"ribband/api"
	"ribband/yard"
)

func length(hand, piece, n int) api.YardEntry {
	return api.YardEntry{Hand: hand, Kind: api.YardLength, A: piece, M: one(n)}
}

func pay(hand, bill, n int) api.YardEntry {
	return api.YardEntry{Hand: hand, Kind: api.YardPay, A: bill, B: n}
}

func strike(hand, n int) api.YardEntry {
	return api.YardEntry{Hand: hand, Kind: api.YardStrike, A: n}
}

func drop(hand, n int) api.YardEntry {
	return api.YardEntry{Hand: hand, Kind: api.YardDrop, A: n}
}

// journalJ is the journal of the chapter.
func journalJ() []api.YardEntry {
	return []api.YardEntry{length(0, 0, 5), pay(1, 0, 60), strike(1, 1), strike(0, 1), strike(1, 2), strike(0, 1)}
}

func snags(list ...api.Snag) []api.Snag { return list }

func TestP10_4Examples(t *testing.T) {
	const bill, board = "bill 3 100 60\nbill 8 50 20\n", "piece keel 5 0\n"
	for i, x := range []struct {
		l     []api.YardEntry
		snags []api.Snag
		stand []int
		both  []int
	}{
		{nil, nil, nil, nil},
		{journalJ(), snags(api.Clear, api.Clear, api.Turned, api.Scant, api.Clear, api.Clear), on(5, 6), nil},
		{journalJ()[:2], snags(api.Clear, api.Clear), on(1, 2), nil},
		// nothing is struck that is not there, does not stand, or is a strike
		{[]api.YardEntry{strike(0, 0), strike(0, 1), strike(0, 3), strike(0, 4), strike(0, -1), strike(0, most), strike(0, least)}, snags(api.Absent, api.Absent, api.Absent, api.Absent, api.Absent, api.Absent, api.Absent), nil, nil},
		{[]api.YardEntry{length(0, 0, 9), strike(0, 1)}, snags(api.Foul, api.Absent), nil, nil},
		{[]api.YardEntry{length(0, 0, 4), strike(0, 1), strike(0, 1), strike(0, 2), strike(1, 2)}, snags(api.Clear, api.Clear, api.Absent, api.Absent, api.Absent), on(2), nil},
		// nobody strikes what another hand wrote
		{[]api.YardEntry{length(1, 0, 4), strike(0, 1), length(0, 0, 5), strike(1, 1), length(0, 0, 5)}, snags(api.Clear, api.Turned, api.Foul, api.Clear, api.Clear), on(4, 5), nil},
		// an entry is struck only if all others are done without it
		{[]api.YardEntry{drop(0, 1), drop(0, 0), strike(0, 1), drop(0, 0)}, snags(api.Clear, api.Clear, api.Clear, api.Clear), on(2, 3, 4), nil},
		{[]api.YardEntry{drop(0, 0), drop(0, 0), drop(0, 0), strike(0, 2)}, snags(api.Clear, api.Clear, api.Absent, api.Clear), on(1, 4), nil},
		{[]api.YardEntry{length(0, 0, 5), pay(0, 0, 100), strike(0, 1), pay(0, 0, 1), strike(0, 2), strike(0, 1)}, snags(api.Clear, api.Clear, api.Scant, api.Foul, api.Clear, api.Clear), on(5, 6), nil},
		// the first of several snags
		{[]api.YardEntry{{Kind: api.YardBevel, A: 2}, length(0, 0, 5), drop(0, 2), pay(0, 0, 5), strike(0, 1), strike(0, 2)}, snags(api.Clear, api.Clear, api.Clear, api.Clear, api.Absent, api.Scant), on(1, 2, 3, 4), nil},
		// snags of entries by themselves come first
		{[]api.YardEntry{{Kind: 14}, {Hand: 2}, {Kind: api.YardStrike, A: 1, B: 1}, {Kind: api.YardStrike, A: 9, S: "x"}, strike(0, 1)}, snags(api.Range, api.Range, api.Form, api.Form, api.Absent), nil, nil},
		// both hands
		{[]api.YardEntry{length(0, 0, 4), length(1, 2, 3)}, snags(api.Clear, api.Clear), on(1, 2), on(3)},
		{[]api.YardEntry{length(0, 0, 4), length(1, 2, 9)}, snags(api.Clear, api.Foul), on(1), nil},
		{[]api.YardEntry{length(0, 0, 4), length(1, 2, 3), strike(1, 2)}, snags(api.Clear, api.Clear, api.Clear), on(1, 3), nil},
		{[]api.YardEntry{length(0, 0, 4), {Hand: 1, Kind: api.YardTime, A: 1, M: one(3)}}, snags(api.Clear, api.Clear), on(1, 2), nil},
		{[]api.YardEntry{{Kind: api.YardLose}, length(1, 0, 4), {Kind: api.YardTape, B: 2, M: one(15)}, {Hand: 1, Kind: api.YardStick, A: 8, B: 10}, pay(0, 0, 1), pay(1, 0, 1)}, snags(api.Clear, api.Clear, api.Clear, api.Clear, api.Clear, api.Clear), on(1, 2, 3, 4, 5, 6), on(2, 3, 9)},
		{[]api.YardEntry{drop(0, 0), {Hand: 1, Kind: api.YardBevel, M: one(4)}, drop(0, 1), strike(0, 1)}, snags(api.Clear, api.Clear, api.Clear, api.Clear), on(2, 3, 4), on(7)},
	} {
		snags, now, s := yard.Play(bookY(t), x.l)
		if !slices.Equal(snags, x.snags) || s != api.Clear {
			t.Error(i, snags, s)
		}
		if want, _ := told(t, bookY(t), x.l).book(t); !equal(now, want) {
			t.Error(i, now)
		}
		if l, s := yard.Stands(bookY(t), x.l); !slices.Equal(l, x.stand) || s != api.Clear {
			t.Error(i, l, s)
		}
		if l, s := yard.Both(bookY(t), x.l); !slices.Equal(l, x.both) || s != api.Clear {
			t.Error(i, l, s)
		}
	}
	_, now, _ := yard.Play(bookY(t), journalJ()[:2])
	if texts := textsOf(t, now); texts[9] != bill || texts[3][len("mould 1\n"):][:len(board)] != board {
		t.Error(texts)
	}
	if _, now, _ := yard.Play(bookY(t), journalJ()); textsOf(t, now) != textsY() {
		t.Error(now)
	}
}

func TestP10_4TooMany(t *testing.T) {
	y, long := bookY(t), make([]api.YardEntry, 13)
	if l, now, s := yard.Play(y, long); len(l) > 0 || !equal(now, api.YardBook{}) || s != api.Many {
		t.Error(l, now, s)
	}
	if l, s := yard.Stands(y, long); len(l) > 0 || s != api.Many {
		t.Error(l, s)
	}
	if l, s := yard.Both(y, long); len(l) > 0 || s != api.Many {
		t.Error(l, s)
	}
	if l, now, s := yard.Play(y, long[:12]); len(l) != 12 || !equal(now, y) || s != api.Clear {
		t.Error(l, now, s)
	}
}

// A journal makes of a book what it makes of it when it is made anew with each entry.
func TestP10_4Everything(t *testing.T) {
	strikes, refused, both := 0, map[api.Snag]int{}, map[int]int{}
	eachBook(t, 800, func(t *testing.T, b api.YardBook, r *rand.Rand) {
		l := anyJournal(r, b)
		o := told(t, b, l)
		want, _ := o.book(t)
		snags, now, s := yard.Play(b, l)
		if !slices.Equal(snags, o.snags) || !equal(now, want) || s != api.Clear {
			t.Error(b, l, snags, o.snags, s)
		}
		if list, s := yard.Stands(b, l); !slices.Equal(list, o.numbers()) || s != api.Clear {
			t.Error(b, l, list, s)
		}
		list, s := yard.Both(b, l)
		if !slices.Equal(list, o.both()) || s != api.Clear {
			t.Error(b, l, list, s)
		}
		both[len(list)]++
		for i, e := range l {
			if e.Kind == api.YardStrike && snags[i] == api.Clear {
				strikes++
			} else if e.Kind == api.YardStrike {
				refused[snags[i]]++
			}
		}
	})
	if strikes < 150 || refused[api.Absent] < 50 || refused[api.Turned] < 30 || refused[api.Scant]+refused[api.Foul] < 1 || both[0] < 50 || both[1] < 50 || both[2] < 10 {
		t.Error("journals are too much alike", strikes, refused, both)
	}
}

// The book behind a journal is what the entries that stand make of it, and what comes later changes no snag (P10.6).
func TestP10_6(t *testing.T) {
	eachBook(t, 200, func(t *testing.T, b api.YardBook, r *rand.Rand) {
		l := anyJournal(r, b)
		all, now, _ := yard.Play(b, l)
		stands, _ := yard.Stands(b, l)
		made := b
		for _, number := range stands {
			e := l[number-1]
			if e.Kind == api.YardStrike {
				continue
			}
			next, s := yard.Do(made, e)
			if s != api.Clear {
				t.Error(b, l, number, s)
			}
			made = next
		}
		if !equal(made, now) {
			t.Error(b, l, made, now)
		}
		for i := range l {
			if some, _, _ := yard.Play(b, l[:i]); !slices.Equal(some, all[:i]) {
				t.Error(b, l, i, some, all)
			}
		}
	})
}

// An entry that is struck leaves no trace (P10.7).
func TestP10_7(t *testing.T) {
	struck := 0
	eachBook(t, 500, func(t *testing.T, b api.YardBook, r *rand.Rand) {
		l := anyJournal(r, b)
		all, now, _ := yard.Play(b, l)
		stands, _ := yard.Stands(b, l)
		without := []api.YardEntry{}
		for i, e := range l {
			switch {
			case e.Kind == api.YardStrike && all[i] == api.Clear:
				struck++
				if l[e.A-1].Hand != e.Hand || slices.Contains(stands, e.A) {
					t.Error("struck", b, l, e)
				}
			case slices.Contains(stands, i+1):
				without = append(without, e)
			}
		}
		some, made, _ := yard.Play(b, without)
		if !equal(made, now) || slices.ContainsFunc(some, func(s api.Snag) bool { return s != api.Clear }) {
			t.Error(b, l, some, made, now)
		}
	})
	if struck < 150 {
		t.Error("too few entries are struck", struck)
	}
}

// If the last entry is struck the book is as it was before it.
func TestP10_7Last(t *testing.T) {
	done := 0
	eachBook(t, 200, func(t *testing.T, b api.YardBook, r *rand.Rand) {
		l := anyJournal(r, b)
		l = l[:min(len(l), 10)]
		_, before, _ := yard.Play(b, l)
		e := likelyEntry(r, before, 0)
		l = append(l, e, strike(e.Hand, len(l)+1))
		all, after, _ := yard.Play(b, l)
		if !equal(after, before) && (e.Kind != api.YardStrike || all[len(all)-2] != api.Clear) {
			t.Error(b, l, before, after)
		}
		if n := len(all); all[n-2] == api.Clear && all[n-1] == api.Clear {
			done++
		}
	})
	if done < 50 {
		t.Error("too little was done", done)
	}
}
