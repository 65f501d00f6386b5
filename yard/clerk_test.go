package yard_test

import (
	"fmt"
	"math/rand"
	"slices"
	"strings"
	"testing"

	"ribband/api"
	"ribband/yard"
)

func TestP10_5Clerk(t *testing.T) {
	const form, settle, six = "snag 3\n", "entry 0 length 0 0 0 5 -\n", "begin bill\nbill 3 100 60\n"
	for i, x := range []struct{ text, want string }{
		{"", ""},
		{"\n", form},
		{"ask cut 2\nentry 0 length 0 0 0 5 -\nask settled 3\njudge shift 0 -4\nhello\n", "yes 1+0+0+0+0+4\ndone 1\nyes none\nwrong\nsnag 3\n"},
		{"ask cut 2", "yes 1+0+0+0+0+4\n"}, // the last line need not end with a line feed
		{"ask wrong 0\nask straight 1\nask lean 180\nask cut 2\nask planked 4\nask shift 0\nask read 1\nask hands 1\nask settled 0\n", "yes none\nyes 10+12+13+14\nyes 3+6+12\nyes 1+0+0+0+0+4\nyes 2+0+4+0\nyes -3\nyes 0\nyes 1+0+1+2\nno\n"},
		{"judge wrong 1 5\njudge straight 0 10+12+13+14\njudge read 1 0\njudge read 1 none\njudge shift 0 -3\njudge settled 0 none\n", "right\nwrong\nright\nwrong\nright\nwrong\n"},
		{"ask settled 9\nask shift 1\njudge settled -1 none\njudge shift 7 -3\n", "snag 6\nsnag 3\nsnag 6\nsnag 3\n"},
		// the journal of the chapter
		{settle + "entry 1 pay 0 60 0 0 -\nentry 1 strike 1 0 0 0 -\nentry 0 strike 1 0 0 0 -\nentry 1 strike 2 0 0 0 -\nentry 0 strike 1 0 0 0 -\n", "done 1\ndone 2\nsnag 7\nsnag 8\ndone 2\ndone 2\n"},
		// what is no entry has no number; what is one and has a snag, has
		{"hello\n" + settle + "ask cut 2\nentry 0 length 0 0 0 9 -\nentry 7 pay 0 0 0 0 -\nentry 0 strike 3 0 0 0 -\nentry 0 strike 1 0 0 0 -\n" + settle, "snag 3\ndone 1\nyes 1+0+0+0+0+4\nsnag 9\nsnag 1\nsnag 6\ndone 1\ndone 2\n"},
		// by the book as it is then
		{"ask settled 3\n" + settle + "ask settled 3\nentry 0 strike 1 0 0 0 -\nask settled 3\njudge settled 3 none\n", "no\ndone 1\nyes none\ndone 1\nno\nwrong\n"},
		// lines without a form
		{"ask\nask cut\nask cut x\nask cut 2 2\nask cart 2\nask CUT 2\nAsk cut 2\nask cut 02\nask cut 1000000000\nask cut 2..3\nask  cut 2\nask cut 2 \n", strings.Repeat(form, 12)},
		{"judge\njudge cut 2\njudge cut 2 x\njudge cut 2 1+\njudge cut 2 1..2\njudge cut x none\njudge cart 2 none\njudge cut 2 none none\njudge cut 2  none\n judge cut 2 none\njudges cut 2 none\njudge shift 7 x\n", strings.Repeat(form, 12)},
		{"entry\nentry 0 pay 0 0 0 0\nentry 0 paid 0 0 0 0 -\nentry 0 pay 0 0 0 1..1 -\nentry 0 pay x 0 0 0 -\nentry 0 pay 0 0 0 0 - -\n\n \n\r\nyes\ndone 1\nsnag 3", strings.Repeat(form, 12)},
	} {
		out, now, s := yard.Clerk(bookY(t), x.text)
		if out != x.want || len(now.Bills) != 2 || s != api.Clear {
			t.Errorf("%v: %q %v", i, out, s)
		}
	}
	_, now, s := yard.Clerk(bookY(t), settle+"entry 1 pay 0 60 0 0 -\n")
	if file, _ := yard.Write(now); !strings.Contains(file, six) || s != api.Clear {
		t.Error(file, s)
	}
}

func TestP10_5ClerkTooMuch(t *testing.T) {
	y, long := bookY(t), strings.Repeat("x", 50000)
	for i, text := range []string{strings.Repeat("\n", 13), strings.Repeat("x\n", 12) + "x", long + "x", long[1:] + "\n\n", strings.Repeat("entry 0 lose 0 0 0 0 -\n", 13)} {
		if out, now, s := yard.Clerk(y, text); out != "" || !equal(now, api.YardBook{}) || s != api.Many {
			t.Error(i, out, now, s)
		}
	}
	for i, text := range []string{strings.Repeat("\n", 12), strings.Repeat("x\n", 11) + "x", long, long[1:] + "\n"} {
		out, now, s := yard.Clerk(y, text)
		if lines := min(strings.Count(text, "\n")+1, 12); i < 2 && out != strings.Repeat("snag 3\n", lines) || i > 1 && out != "snag 3\n" || !equal(now, y) || s != api.Clear {
			t.Errorf("%v: %q %v", i, out, s)
		}
	}
}

var askWords = [9]string{"wrong", "straight", "lean", "cut", "planked", "shift", "read", "hands", "settled"}

func listText(list []int) string {
	if len(list) == 0 {
		return "none"
	}
	return strings.ReplaceAll(strings.Trim(fmt.Sprint(list), "[]"), " ", "+")
}

// orders are lines for a clerk, and what is answered; a journal is told behind them.
type orders struct {
	text, answers string
	l             []api.YardEntry
}

// order orders one more thing, of a book that has this journal so far.
func (o *orders) order(t *testing.T, b api.YardBook, r *rand.Rand) {
	t.Helper()
	line, answer := "", ""
	so := told(t, b, o.l)
	now, _ := so.book(t)
	switch r.Intn(4) {
	case 0:
		q := anyAsk(r)
		if q.Kind < 0 || q.Kind > 8 || q.A > 999999999 || q.A < -999999999 {
			line, answer = fmt.Sprintf("ask %v %v", q.Kind, q.A), "snag 3"
			break
		}
		yes, proof, s := asked(t, now, q)
		line, answer = fmt.Sprintf("ask %s %d", askWords[q.Kind], q.A), "no"
		if yes {
			answer = "yes " + listText(proof)
		}
		if s != api.Clear {
			answer = fmt.Sprintf("snag %d", s)
		}
	case 1:
		q := ask(api.YardQuestion(r.Intn(9)), 0)
		q.A = numberOf(r, q.Kind)
		_, proof, s := asked(t, now, q)
		for proof = anyProof(r, proof); slices.ContainsFunc(proof, func(n int) bool { return n > 999999999 || n < -999999999 }); {
			proof = anyProof(r, nil)
		}
		line, answer = fmt.Sprintf("judge %s %d %s", askWords[q.Kind], q.A, listText(proof)), "wrong"
		if s != api.Clear {
			answer = fmt.Sprintf("snag %d", s)
		} else if shows(t, now, q, proof) {
			answer = "right"
		}
	default:
		e := anyEntry(r, now, len(o.l))
		text, s := lineOf(e)
		if s != api.Clear {
			line, answer = "entry "+anyOf(r, []string{"", "0 lose 0", "0 lose x 0 0 0 -"}), "snag 3"
			break
		}
		o.l = append(o.l, e)
		so = told(t, b, o.l)
		line, answer = text, fmt.Sprintf("done %d", len(so.numbers()))
		if s := so.snags[len(o.l)-1]; s != api.Clear {
			answer = fmt.Sprintf("snag %d", s)
		}
	}
	o.text += line + "\n"
	o.answers += answer + "\n"
}

// Who works line by line comes to the same book as the journal (P10.12).
func TestP10_12(t *testing.T) {
	seen := map[string]int{}
	eachBook(t, 250, func(t *testing.T, b api.YardBook, r *rand.Rand) {
		o := &orders{}
		for range r.Intn(13) {
			o.order(t, b, r)
		}
		out, now, s := yard.Clerk(b, o.text)
		if out != o.answers || s != api.Clear {
			t.Errorf("%v\n%s%s%s%v", b, o.text, out, o.answers, s)
		}
		if _, end, s := yard.Play(b, o.l); !equal(now, end) || s != api.Clear {
			t.Error(b, o.text, now, end, s)
		}
		for line := range strings.Lines(out) {
			word, _, _ := strings.Cut(strings.TrimSpace(line), " ")
			seen[word]++
		}
	})
	for _, word := range []string{"done", "yes", "no", "right", "wrong", "snag"} {
		if seen[word] < 50 {
			t.Error("orders are too much alike", seen)
		}
	}
}
