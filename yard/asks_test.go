package yard_test

import (
	"math/rand"
	"slices"
	"strings"
	"testing"

	"ribband/api"
	"ribband/yard"
)

func ask(kind api.YardQuestion, a int) api.YardAsk { return api.YardAsk{Kind: kind, A: a} }

func TestP10_5Examples(t *testing.T) {
	for i, x := range []struct {
		q     api.YardAsk
		yes   bool
		proof []int
		s     api.Snag
	}{
		{ask(api.YardWrong, 0), true, nil, api.Clear},
		{ask(api.YardWrong, -1), false, nil, api.Clear},
		{ask(api.YardStraight, 1), true, on(10, 12, 13, 14), api.Clear},
		{ask(api.YardStraight, 0), false, nil, api.Clear},
		{ask(api.YardLean, 180), true, on(3, 6, 12), api.Clear},
		{ask(api.YardLean, 179), false, nil, api.Clear},
		{ask(api.YardCut, 2), true, on(1, 0, 0, 0, 0, 4), api.Clear},
		{ask(api.YardCut, 1), false, nil, api.Clear},
		{ask(api.YardPlanked, 4), true, on(2, 0, 4, 0), api.Clear},
		{ask(api.YardPlanked, 3), false, nil, api.Clear},
		{ask(api.YardShift, 0), true, on(-3), api.Clear},
		{ask(api.YardShift, 1), false, nil, api.Form},
		{ask(api.YardShift, -1), false, nil, api.Form},
		{ask(api.YardRead, 1), true, on(0), api.Clear},
		{ask(api.YardRead, 0), false, nil, api.Clear},
		{ask(api.YardHands, 1), true, on(1, 0, 1, 2), api.Clear},
		{ask(api.YardHands, most), true, on(1, 0, 1, 2), api.Clear},
		{ask(api.YardHands, 0), false, nil, api.Clear},
		{ask(api.YardSettled, 3), false, nil, api.Clear},
		{ask(api.YardSettled, -1), false, nil, api.Absent},
		{ask(api.YardSettled, 9), false, nil, api.Absent},
		{ask(9, 9), false, nil, api.Range},
		{ask(-1, 0), false, nil, api.Range},
	} {
		yes, proof, s := yard.Ask(bookY(t), x.q)
		if yes != x.yes || !slices.Equal(proof, x.proof) || s != x.s {
			t.Error(i, yes, proof, s)
		}
		if right, s := yard.Judge(bookY(t), x.q, proof); right != x.yes || s != x.s {
			t.Error(i, right, s)
		}
	}
}

// Books that answer otherwise than Y, or not at all.
func TestP10_5Books(t *testing.T) {
	for i, x := range []struct {
		part  int
		text  string
		q     api.YardAsk
		yes   bool
		proof []int
		s     api.Snag
	}{
		{0, papers[0][2], ask(api.YardWrong, 0), false, nil, api.Clear}, // no boat is no snag here
		{0, papers[0][2], ask(api.YardWrong, 1), true, on(1), api.Clear},
		{1, papers[1][2], ask(api.YardStraight, 9), false, nil, api.Foul},
		{1, "batten 99 99 5\nmark 0\nmark 5\nmark 0\n", ask(api.YardStraight, 100), true, on(0, 5, 0), api.Clear},
		{1, "batten 99 99 5\nmark 0\nmark 5\nmark 0\n", ask(api.YardStraight, 99), false, nil, api.Clear},
		{2, papers[2][2], ask(api.YardLean, 999), false, nil, api.Foul},
		{3, papers[3][2], ask(api.YardCut, 9), false, nil, api.Foul},
		{3, "mould 1\npiece keel 4..5 0\n", ask(api.YardCut, 9), false, nil, api.Clear}, // there is no board
		{3, "mould 1\npiece keel 4..5 0\nboard elm 5 none\n", ask(api.YardCut, 1), true, on(0, 0), api.Clear},
		{5, papers[5][2], ask(api.YardPlanked, 9), false, nil, api.Foul},
		{5, "butt 3 2 0 0 4\nkind 9 1 12\n", ask(api.YardPlanked, 99), false, nil, api.Clear}, // no layout keeps the rules
		{5, "butt 3 2 0 0 1\nkind 9 1 12\n", ask(api.YardPlanked, 2), true, on(0, 0), api.Clear},
		{6, papers[6][1], ask(api.YardShift, 0), true, on(-4), api.Clear},
		{6, papers[6][3], ask(api.YardShift, 0), false, nil, api.Clear},
		{6, papers[6][2], ask(api.YardShift, 0), false, nil, api.Foul},
		{6, papers[6][2], ask(api.YardShift, 1), false, nil, api.Form}, // before Foul
		{7, papers[7][2], ask(api.YardRead, 1), true, on(0), api.Clear},
		{7, papers[7][1], ask(api.YardRead, 0), true, nil, api.Clear},
		{8, papers[8][2], ask(api.YardHands, 3), false, nil, api.Foul},
		{8, papers[8][3], ask(api.YardHands, 3), false, nil, api.Clear}, // always cold
		{8, papers[8][4], ask(api.YardHands, 2), false, nil, api.Clear},
		{8, papers[8][4], ask(api.YardHands, 3), true, on(3, 0, 1, 2), api.Clear},                                               // more hands than the book has
		{8, strings.Replace(papers[8][0], "steam 2 1", "steam 2 3", 1), ask(api.YardHands, 1), true, on(1, 0, 1, 2), api.Clear}, // the plan of so many hands
		{8, papers[8][1], ask(api.YardSettled, 8), true, nil, api.Clear},
		{8, papers[8][2], ask(api.YardSettled, 8), false, nil, api.Clear},
		{0, papers[0][1], ask(api.YardSettled, 0), true, nil, api.Clear},
	} {
		b := bookOf(t, but(x.part, x.text))
		yes, proof, s := yard.Ask(b, x.q)
		if yes != x.yes || !slices.Equal(proof, x.proof) || s != x.s {
			t.Error(i, yes, proof, s)
		}
		if right, s := yard.Judge(b, x.q, x.proof); right != x.yes || s != x.s {
			t.Error(i, right, s)
		}
	}
}

func TestP10_5Judged(t *testing.T) {
	straight, lean := ask(api.YardStraight, 2), ask(api.YardLean, 192)
	for i, x := range []struct {
		q     api.YardAsk
		list  []int
		right bool
	}{
		// cells: as many as are asked about, and ascending
		{ask(api.YardWrong, 1), on(5), true},
		{ask(api.YardWrong, 1), nil, true},
		{ask(api.YardWrong, 0), on(5), false},
		{ask(api.YardWrong, 2), on(0, 5), true},
		{ask(api.YardWrong, 2), on(5, 0), false},
		{ask(api.YardWrong, 2), on(5, 5), false},
		{ask(api.YardWrong, 1), on(6), false},
		{ask(api.YardWrong, 1), on(-1), false},
		{ask(api.YardWrong, 6), on(0, 1, 2, 3, 4, 5), true},
		{ask(api.YardWrong, 7), on(0, 1, 2, 3, 4, 5, 6), false},
		// a line that is a boat, and its strain
		{straight, on(10, 12, 13, 14), true},
		{straight, on(10, 12, 13, 13), true},
		{ask(api.YardStraight, 1), on(10, 12, 13, 13), false},
		{ask(api.YardStraight, 99), on(10, 13, 13, 14), false},
		{straight, on(10, 12, 13), false},
		{straight, on(10, 12, 13, 14, 15), false},
		{straight, nil, false},
		{straight, on(10, 12, 13, 960), false},
		// breadths that are a boat, and twice their area
		{lean, on(3, 6, 12), true},
		{lean, on(3, 7, 12), true},
		{ask(api.YardLean, 191), on(3, 7, 12), false},
		{ask(api.YardLean, 999), on(3, 8, 12), false},
		{lean, on(3, 6), false},
		{lean, nil, false},
		// a cutting, piece by piece
		{ask(api.YardCut, 2), on(1, 0, 0, 0, 0, 4), true},
		{ask(api.YardCut, 2), on(1, 1, 0, 0, 0, 4), true},
		{ask(api.YardCut, 3), on(1, 0, 0, 0, 0, 6), false},
		{ask(api.YardCut, 1), on(1, 0, 0, 0, 0, 4), false},
		{ask(api.YardCut, 2), on(1, 0, 0, 0, 0), false},
		{ask(api.YardCut, 2), on(1, 0, 0, 0), false},
		{ask(api.YardCut, 2), on(1, 0, 0, 0, 0, 4, 0), false},
		{ask(api.YardCut, 2), on(1, 0, 0, 0, 0, 4, 0, 0), false},
		{ask(api.YardCut, 2), on(2, 0, 0, 0, 0, 4), false},
		{ask(api.YardCut, 2), on(1, 41, 0, 0, 0, 4), false},
		{ask(api.YardCut, 2), nil, false},
		// a layout, strake by strake, with a 0 behind each one
		{ask(api.YardPlanked, 4), on(2, 0, 4, 0), true},
		{ask(api.YardPlanked, 4), on(4, 0, 2, 0), true},
		{ask(api.YardPlanked, 3), on(4, 0, 2, 0), false},
		{ask(api.YardPlanked, 9), on(2, 0, 4), false},
		{ask(api.YardPlanked, 9), on(2, 4, 0), false},
		{ask(api.YardPlanked, 9), on(2, 0, 4, 0, 0), false},
		{ask(api.YardPlanked, 9), on(2, 0, 3, 0), false},
		{ask(api.YardPlanked, 9), on(0, 0), false},
		{ask(api.YardPlanked, 9), on(2, 0, 6, 0), false},
		{ask(api.YardPlanked, 9), on(-2, 0, 4, 0), false},
		{ask(api.YardPlanked, 9), on(4, 2, 0, 4, 0), false},
		{ask(api.YardPlanked, 9), nil, false},
		// one number
		{ask(api.YardShift, 0), on(-3), true},
		{ask(api.YardShift, 0), on(-1), true},
		{ask(api.YardShift, 0), on(0), false},
		{ask(api.YardShift, 0), on(-4), false},
		{ask(api.YardShift, 0), on(-3, -3), false},
		{ask(api.YardShift, 0), nil, false},
		{ask(api.YardShift, 0), on(most), false},
		{ask(api.YardShift, 0), on(least), false},
		// readings, ascending
		{ask(api.YardRead, 1), on(0), true},
		{ask(api.YardRead, 1), on(1), true},
		{ask(api.YardRead, 2), on(0, 1), true},
		{ask(api.YardRead, 1), on(0, 1), false},
		{ask(api.YardRead, 2), on(1, 0), false},
		{ask(api.YardRead, 2), on(0, 0), false},
		{ask(api.YardRead, 1), on(2), false},
		{ask(api.YardRead, 1), nil, false},
		// hands, and a plan
		{ask(api.YardHands, 1), on(1, 0, 1, 2), true},
		{ask(api.YardHands, 1), on(1, 1, 0, 2), true},
		{ask(api.YardHands, 1), on(1, 2, 1, 0), false},
		{ask(api.YardHands, 2), on(2, 2, 1, 0), true},
		{ask(api.YardHands, 1), on(2, 0, 1, 2), false},
		{ask(api.YardHands, 9), on(3, 0, 1, 2), true},
		{ask(api.YardHands, 9), on(4, 0, 1, 2), false},
		{ask(api.YardHands, 9), on(0, 0, 1, 2), false},
		{ask(api.YardHands, 9), on(-1, 0, 1, 2), false},
		{ask(api.YardHands, 1), on(1, 0, 1), false},
		{ask(api.YardHands, 1), on(1, 0, 1, 1), false},
		{ask(api.YardHands, 1), on(1), false},
		{ask(api.YardHands, 1), nil, false},
		{ask(api.YardSettled, 3), nil, false},
	} {
		if right, s := yard.Judge(bookY(t), x.q, x.list); right != x.right || s != api.Clear {
			t.Error(i, right, s)
		}
	}
	settled := bookOf(t, but(8, papers[8][1]))
	for i, x := range []struct {
		list  []int
		right bool
	}{{nil, true}, {on(0), false}, {on(8), false}} {
		if right, s := yard.Judge(settled, ask(api.YardSettled, 8), x.list); right != x.right || s != api.Clear {
			t.Error(i, right, s)
		}
	}
}

// numberOf is what is often asked about: by a little more or less the answer is yes.
func numberOf(r *rand.Rand, kind api.YardQuestion) int {
	switch kind {
	case api.YardStraight:
		return anyOf(r, on(0, 1, 2, 4, 6, 50))
	case api.YardLean:
		return anyOf(r, on(20, 33, 36, 45, 170, 180, 185, 192, 200, 999))
	case api.YardPlanked:
		return r.Intn(8)
	case api.YardShift:
		return 0
	case api.YardSettled:
		return r.Intn(9)
	}
	return r.Intn(4)
}

func anyAsk(r *rand.Rand) api.YardAsk {
	q := ask(api.YardQuestion(r.Intn(9)), 0)
	q.A = numberOf(r, q.Kind)
	if r.Intn(20) == 0 {
		q.A = pick(r)
	}
	if r.Intn(30) == 0 {
		q.Kind = api.YardQuestion(pick(r))
	}
	return q
}

// anyProof is a list that is like a proof, mostly.
func anyProof(r *rand.Rand, proof []int) []int {
	list := slices.Clone(proof)
	if r.Intn(8) == 0 {
		list = nil
	}
	for range r.Intn(3) {
		i := r.Intn(len(list) + 1)
		switch {
		case i == len(list) || r.Intn(4) == 0:
			list = slices.Insert(list, i, r.Intn(5)-1)
		case r.Intn(4) == 0:
			list = slices.Delete(list, i, i+1)
		case r.Intn(20) == 0:
			list[i] = pick(r)
		case r.Intn(3) == 0:
			k := r.Intn(len(list))
			list[i], list[k] = list[k], list[i]
		default:
			list[i] += 1 - 2*r.Intn(2)
		}
	}
	return list
}

// The answer is what the chapters say; a list shows it just if it does when all boats are gone through (P10.9).
func TestP10_5Everything(t *testing.T) {
	var yeses, nos, rights, wrongs [9]int
	snags := map[api.Snag]int{}
	eachBook(t, 1200, func(t *testing.T, b api.YardBook, r *rand.Rand) {
		for range 4 {
			q := anyAsk(r)
			want, list, snag := asked(t, b, q)
			yes, proof, s := yard.Ask(b, q)
			if yes != want || !slices.Equal(proof, list) || s != snag {
				t.Error(b, q, yes, proof, s, want, list, snag)
			}
			snags[s]++
			if s != api.Clear {
				if right, k := yard.Judge(b, q, anyProof(r, nil)); right || k != s {
					t.Error(b, q, right, k)
				}
				continue
			}
			if yes {
				yeses[q.Kind]++
			} else {
				nos[q.Kind]++
				_, proof, _ = yard.Ask(b, ask(q.Kind, anyOf(r, on(0, 2, 9, 999))))
			}
			for i := range 6 {
				list := proof
				if i > 0 {
					list = anyProof(r, proof)
				}
				right, s := yard.Judge(b, q, list)
				if right != shows(t, b, q, list) || s != api.Clear {
					t.Error(b, q, list, right, s)
				}
				if right && !yes || yes && i == 0 && !right {
					t.Error("a list shows just what is so", b, q, list, right, yes)
				}
				if right {
					rights[q.Kind]++
				} else {
					wrongs[q.Kind]++
				}
			}
		}
	})
	for kind := range 9 {
		if yeses[kind] < 40 || nos[kind] < 20 || rights[kind] < 100 || wrongs[kind] < 100 {
			t.Error("questions are too much alike", yeses, nos, rights, wrongs)
		}
	}
	for _, s := range []api.Snag{api.Range, api.Form, api.Absent, api.Foul} {
		if snags[s] < 10 {
			t.Error("questions are too much alike", snags)
		}
	}
}

// A question about more is answered yes if one about less is, with the same proof.
func TestP10_9More(t *testing.T) {
	eachBook(t, 200, func(t *testing.T, b api.YardBook, r *rand.Rand) {
		q := anyAsk(r)
		yes, proof, s := yard.Ask(b, q)
		if s != api.Clear || !yes || q.Kind == api.YardShift || q.Kind == api.YardSettled {
			return
		}
		q.A = min(q.A, 1000) + r.Intn(10)
		if again, list, s := yard.Ask(b, q); !again || !slices.Equal(list, proof) || s != api.Clear {
			t.Error(b, q, again, list, s)
		}
		if right, s := yard.Judge(b, q, proof); !right || s != api.Clear {
			t.Error(b, q, proof, s)
		}
	})
}
