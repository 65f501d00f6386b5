package yard_test

import (
	"fmt"
	"math/rand"
	"reflect"
	"slices"
	"strings"
	"testing"

	"ribband/api"
	"ribband/batten"
	"ribband/bevel"
	"ribband/butt"
	"ribband/frame"
	"ribband/mould"
	"ribband/offsets"
	"ribband/spile"
	"ribband/steam"
	"ribband/strake"
)

var words = [10]string{"offsets", "batten", "frame", "mould", "strake", "butt", "spile", "bevel", "steam", "bill"}

// A table of three stations, and one of which nothing is smudged.
const (
	textZ = "offsets 0\nstation a\nstation b\nstation c\nwater 0-8-0 0-1-2,0-2-4,0-1-2\n"
	textT = "offsets 1\nstation a\nstation b\nstation c\nwater 0-8-0 1-2-?,1-?-0,1-2-3\nbutt 1-0-0 0-5-0,-,0-9-0\n"
)

// papers are texts of each part. The first ones are those of the book Y of the chapter; then come those of books that are settled, that have no boat, and others.
var papers = [10][]string{
	{
		"offsets 1\nstation a\nstation b\nwater 0-8-0 1-2-3,1-?-0\nwater 1-4-0 1-6-0,1-4-4\nbutt 1-0-0 0-5-0,0-9-0\n",
		"offsets 0\nstation a\nstation b\nwater 0-8-0 1-2-3,1-?-0\nwater 1-4-0 1-6-0,1-4-4\nbutt 1-0-0 0-5-0,0-9-0\n",
		"offsets 0\nstation a\nstation b\nwater 0-8-0 1-2-3,1-2-0\nwater 1-4-0 1-6-0,1-4-4\nbutt 1-0-0 0-5-0,0-9-0\n",
		textZ,
		textT,
	},
	{
		"batten 3 3 1\nmark 10\nmark 12..13\nmark 13..14\nmark 13..14\n",
		"batten 3 3 1\nmark 10\nmark 12\nmark 13\nmark 14\n",
		"batten 0 0 0\nmark 0\nmark 5\nmark 0\n",
		"batten 9 9 2\nmark 0..2\nmark 1..3\nmark 0..2\nrule 0 2 -1..1\n",
	},
	{
		"frame 2\npoint 0 3\npoint 4 6..7\npoint 12 12..13\ntape 0 1 5\nstick 8 9 fits\n",
		"frame 2\npoint 0 3\npoint 4 7\npoint 12 12\n",
		"frame 2\npoint 0 3\npoint 4 6..7\npoint 12 12..13\ntape 0 2 30\n",
		"frame 0\npoint 2 3..5\npoint 5 6..8\n",
	},
	{
		"mould 1\npiece keel 4..5 0\npiece rib 3 1\npiece arm 2..3 0\nboard elm 8 3\nboard oak 6 none\ntape 0+2 7\n",
		"mould 1\npiece keel 4 0\npiece rib 3 1\nboard elm 8 3\nboard oak 6 none\n",
		"mould 1\npiece keel 4..5 0\nboard elm 8 3\ntape 0 7\n",
		"mould 0\npiece keel 4..6 0\npiece rib 3..4 0\nboard elm 9 none\n",
	},
	{
		"strake 2 2 4 1 2\ngirth 5..6\ngirth 7\ngirth 6..7\nmark 0 1 3\n",
		"strake 2 2 4 1 2\ngirth 6\ngirth 7\ngirth 7\n",
		"strake 2 2 4 1 2\ngirth 9..11\ngirth 7\n",
		"strake 1 3 5 0 9\ngirth 3..5\ngirth 4..6\n",
	},
	{
		"butt 6 2 2 1 2\nkind 2 1 2..3\nkind 4 3 3\n",
		"butt 6 2 2 1 2\nkind 2 1 2\nkind 4 3 3\n",
		"butt 6 2 2 1 2\nkind 2 1 2..3\nkind 4 3 3\nnote 0+1 9\n",
		"butt 4 3 0 0 1\nkind 1 1 3..5\nkind 4 9 0..2\nnote 0+1 4..6\n",
	},
	{
		"spile 10 1\npoint 4 0..12 4\npoint 5..6 1..12 4\npoint 4 0..10 4\ncheck 2 6..7\n",
		"spile 10 0\npoint 4 0..12 4\npoint 5 1..12 4\n",
		"spile 10 1\npoint 4 0..12 4\npoint 5..6 1..12 4\ncheck 0 7\n",
		"spile 9 1\npoint 4 0..12 8\npoint 3..5 3..12 8\n",
	},
	{
		"bevel 3 4 1 2 1\noffset 10\noffset 12..13\noffset 14\noffset 14..15\nreading 0 4\nreading 1 2\n",
		"bevel 3 4 1 2 0\noffset 10\noffset 12\noffset 14\nreading 0 2\n",
		"bevel 3 4 1 2 0\noffset 10\noffset 12..13\noffset 14\noffset 14..15\nreading 0 4\nreading 1 2\n",
		"bevel 1 1 1 1 2\noffset 5\noffset 5..6\noffset 6\nreading 0 1\nreading 1 1\nreading 0 3\n",
	},
	{
		"steam 2 1 12\nplank keel 4 2 3\nplank rib 2..3 2 2\nplank arm 3 1 4\nnote 0+1 6..7\n",
		"steam 2 1 12\nplank keel 4 2 3\nplank rib 2 2 2\n",
		"steam 2 1 12\nplank keel 4 2 3\nplank rib 2..3 2 2\nnote 0 5\n",
		"steam 1 1 9\nplank a 1..2 3 2\n",
		"steam 3 1 30\nplank a 4..5 4 5\nplank b 5 4 5\nplank c 4 4 5\n",
	},
	{
		"bill 3 100 0\nbill 8 50 20\n",
		"",
		"bill 0 30 0\nbill 1 9999 1\nbill 7 0 0\nbill 1 40 40\n",
	},
}

// textsY are the texts of the book Y.
func textsY() (texts [10]string) {
	for i := range papers {
		texts[i] = papers[i][0]
	}
	return texts
}

// but is the texts of Y, but for one of them.
func but(part int, text string) [10]string {
	texts := textsY()
	texts[part] = text
	return texts
}

const (
	most  = int(^uint(0) >> 1)
	least = -most - 1
)

func to(a, b int) api.Span { return api.Span{Low: a, High: b} }

func one(n int) api.Span { return to(n, n) }

func on(list ...int) []int { return list }

func parsed[B any](t *testing.T, parse func(string) (B, int, api.Snag), text string) B {
	t.Helper()
	b, line, s := parse(text)
	if s != api.Clear {
		t.Fatal(text, line, s)
	}
	return b
}

// bookOf is the book of some texts.
func bookOf(t *testing.T, texts [10]string) api.YardBook {
	t.Helper()
	b := api.YardBook{
		Table:   parsed(t, offsets.Parse, texts[0]),
		Line:    parsed(t, batten.Parse, texts[1]),
		Frame:   parsed(t, frame.Parse, texts[2]),
		Mould:   parsed(t, mould.Parse, texts[3]),
		Strakes: parsed(t, strake.Parse, texts[4]),
		Butts:   parsed(t, butt.Parse, texts[5]),
		Spile:   parsed(t, spile.Parse, texts[6]),
		Bevel:   parsed(t, bevel.Parse, texts[7]),
		Steam:   parsed(t, steam.Parse, texts[8]),
	}
	for line := range strings.Lines(texts[9]) {
		var x api.YardBill
		if n, err := fmt.Sscanf(line, "bill %d %d %d\n", &x.Part, &x.Price, &x.Paid); n != 3 || err != nil {
			t.Fatal(line, err)
		}
		b.Bills = append(b.Bills, x)
	}
	return b
}

func bookY(t *testing.T) api.YardBook {
	t.Helper()
	return bookOf(t, textsY())
}

func printed[B any](t *testing.T, print func(B) (string, api.Snag), b B) string {
	t.Helper()
	text, s := print(b)
	if s != api.Clear {
		t.Fatal(b, s)
	}
	return text
}

func billsText(l []api.YardBill) (text string) {
	for _, x := range l {
		text += fmt.Sprintf("bill %d %d %d\n", x.Part, x.Price, x.Paid)
	}
	return text
}

// textsOf are the texts of a book without a snag.
func textsOf(t *testing.T, b api.YardBook) [10]string {
	t.Helper()
	return [10]string{
		printed(t, offsets.Print, b.Table),
		printed(t, batten.Print, b.Line),
		printed(t, frame.Print, b.Frame),
		printed(t, mould.Print, b.Mould),
		printed(t, strake.Print, b.Strakes),
		printed(t, butt.Print, b.Butts),
		printed(t, spile.Print, b.Spile),
		printed(t, bevel.Print, b.Bevel),
		printed(t, steam.Print, b.Steam),
		billsText(b.Bills),
	}
}

func sumOf(text string) (n int) {
	for _, c := range []byte(text) {
		n = (17*n + int(c)) % 9973
	}
	return n
}

// fileOf is the file of some texts.
func fileOf(texts [10]string) (file string) {
	for i, text := range texts {
		file += fmt.Sprintf("begin %s\n%send %s %d\n", words[i], text, words[i], sumOf(text))
	}
	return file
}

// boatsOf is how many boats each chapter's book has.
func boatsOf(t *testing.T, b api.YardBook) (all [9]int) {
	t.Helper()
	var snags [9]api.Snag
	all[0], snags[0] = offsets.Boats(b.Table)
	all[1], snags[1] = batten.Boats(b.Line)
	all[2], snags[2] = frame.Boats(b.Frame)
	all[3], snags[3] = mould.Boats(b.Mould)
	all[4], snags[4] = strake.Boats(b.Strakes)
	all[5], snags[5] = butt.Boats(b.Butts)
	all[6], snags[6] = spile.Boats(b.Spile)
	all[7], snags[7] = bevel.Boats(b.Bevel)
	all[8], snags[8] = steam.Boats(b.Steam)
	if snags != [9]api.Snag{} {
		t.Fatal(b, snags)
	}
	return all
}

// copied is a value in memory of its own, with room for more behind each list.
func copied[T any](x T) T {
	return copyValue(reflect.ValueOf(x)).Interface().(T)
}

func copyValue(v reflect.Value) reflect.Value {
	now := reflect.New(v.Type()).Elem()
	switch v.Kind() {
	case reflect.Struct:
		for i := range v.NumField() {
			now.Field(i).Set(copyValue(v.Field(i)))
		}
	case reflect.Slice:
		now.Set(reflect.MakeSlice(v.Type(), v.Len(), v.Len()+5))
		for i := range v.Len() {
			now.Index(i).Set(copyValue(v.Index(i)))
		}
	default:
		now.Set(v)
	}
	return now
}

// equal tells whether two values are equal, if it makes no difference whether a slice is nil or empty.
func equal(x, y any) bool {
	return reflect.DeepEqual(copyValue(reflect.ValueOf(x)).Interface(), copyValue(reflect.ValueOf(y)).Interface())
}

func randomBook(t *testing.T, r *rand.Rand) api.YardBook {
	t.Helper()
	texts := textsY()
	for i := range texts {
		if r.Intn(3) > 0 {
			texts[i] = papers[i][r.Intn(len(papers[i]))]
		}
	}
	b := bookOf(t, texts)
	if r.Intn(2) == 0 {
		b.Bills = nil
		for range r.Intn(api.MaxYardBills + 1) {
			x := api.YardBill{Part: r.Intn(9), Price: r.Intn(100)}
			x.Paid = r.Intn(x.Price + 1)
			b.Bills = append(b.Bills, x)
		}
	}
	return b
}

// eachBook looks at so many books, always the same ones.
func eachBook(t *testing.T, many int, look func(t *testing.T, b api.YardBook, r *rand.Rand)) {
	t.Helper()
	r := rand.New(rand.NewSource(10))
	for range many {
		look(t, randomBook(t, r), r)
		if t.Failed() {
			return
		}
	}
}

// uses is which fields each kind of entries uses.
var uses = [14]string{"A", "ABCS", "AM", "ABM", "ABC", "AM", "A", "ABM", "A", "AM", "AM", "A", "AM", "AB"}

// partOf is the part on which an entry of a kind is done.
var partOf = [14]int{-1, 0, 1, 2, 2, 3, 3, 4, 5, 6, 7, 7, 8, 9}

// ownSnag is the snag of an entry by itself.
func ownSnag(e api.YardEntry) api.Snag {
	if e.Kind < 0 || e.Kind > 13 || e.Hand < 0 || e.Hand > 1 {
		return api.Range
	}
	for field, empty := range map[string]bool{"A": e.A == 0, "B": e.B == 0, "C": e.C == 0, "M": e.M.Low == 0 && e.M.High == 0, "S": e.S == ""} {
		if !empty && !strings.Contains(uses[e.Kind], field) {
			return api.Form
		}
	}
	if e.Kind == api.YardFigure && e.A != 0 && e.A != 1 || e.Kind == api.YardStick && e.C != 0 && e.C != 1 {
		return api.Range
	}
	return api.Clear
}

// done is the book in which an entry of another kind than strike is done.
func done(t *testing.T, b api.YardBook, e api.YardEntry) (now api.YardBook, s api.Snag) {
	t.Helper()
	now = b
	switch e.Kind {
	case api.YardFigure:
		now.Table, s = offsets.Read(b.Table, api.OffsetsCell{Butt: e.A > 0, Line: e.B, Station: e.C}, e.S)
	case api.YardHeight:
		now.Line, s = batten.Measure(b.Line, e.A, e.M)
	case api.YardTape:
		now.Frame, s = frame.Tape(b.Frame, api.FrameTape{From: e.A, To: e.B, Girth: e.M})
	case api.YardStick:
		now.Frame, s = frame.Stick(b.Frame, api.FrameStick{Height: e.A, Long: e.B, Fits: e.C > 0})
	case api.YardLength:
		now.Mould, s = mould.Measure(b.Mould, e.A, e.M)
	case api.YardLose:
		now.Mould, s = mould.Lose(b.Mould, e.A)
	case api.YardMark:
		now.Strakes, s = strake.Mark(b.Strakes, api.StrakeMark{Frame: e.A, Strake: e.B, Width: e.M})
	case api.YardRotten:
		now.Butts, s = butt.Rotten(b.Butts, e.A)
	case api.YardCheck:
		now.Spile, s = spile.Check(b.Spile, api.SpileCheck{Point: e.A, Gap: e.M})
	case api.YardBevel:
		now.Bevel, s = bevel.Read(b.Bevel, api.BevelReading{Frame: e.A, Bevel: e.M})
	case api.YardDrop:
		now.Bevel, s = bevel.Drop(b.Bevel, e.A)
	case api.YardTime:
		now.Steam, s = steam.Time(b.Steam, e.A, e.M)
	case api.YardPay:
		return paid(t, b, e.A, e.B)
	}
	if s != api.Clear {
		return api.YardBook{}, s
	}
	return now, s
}

func paid(t *testing.T, b api.YardBook, bill, more int) (now api.YardBook, s api.Snag) {
	t.Helper()
	if bill < 0 || bill >= len(b.Bills) {
		return now, api.Absent
	}
	if more < 1 || more > 9999 {
		return now, api.Range
	}
	x := b.Bills[bill]
	if boatsOf(t, b)[x.Part] != 1 {
		return now, api.Scant
	}
	if x.Paid+more > x.Price {
		return now, api.Foul
	}
	now = b
	now.Bills = slices.Clone(b.Bills)
	now.Bills[bill].Paid += more
	return now, api.Clear
}

// tale is what becomes of a journal: of each entry its snag, and whether it stands.
type tale struct {
	first  api.YardBook
	l      []api.YardEntry
	snags  []api.Snag
	stands []bool
}

// told goes through a journal. Each time the book is made anew of all entries that stand.
func told(t *testing.T, b api.YardBook, l []api.YardEntry) *tale {
	t.Helper()
	o := &tale{first: b, l: l}
	for _, e := range l {
		s := o.next(t, e)
		o.snags = append(o.snags, s)
		o.stands = append(o.stands, s == api.Clear)
	}
	return o
}

func (o *tale) next(t *testing.T, e api.YardEntry) api.Snag {
	t.Helper()
	if s := ownSnag(e); s != api.Clear {
		return s
	}
	if e.Kind != api.YardStrike {
		now, _ := o.book(t)
		_, s := done(t, now, e)
		return s
	}
	i := e.A - 1
	if e.A < 1 || e.A > len(o.stands) || !o.stands[i] || o.l[i].Kind == api.YardStrike {
		return api.Absent
	}
	if o.l[i].Hand != e.Hand {
		return api.Turned
	}
	o.stands[i] = false
	_, s := o.book(t)
	o.stands[i] = s != api.Clear
	return s
}

// book is what the entries that stand make of the first book, or the first snag.
func (o *tale) book(t *testing.T) (now api.YardBook, s api.Snag) {
	t.Helper()
	now = o.first
	for i, stands := range o.stands {
		if !stands || o.l[i].Kind == api.YardStrike {
			continue
		}
		if now, s = done(t, now, o.l[i]); s != api.Clear {
			return now, s
		}
	}
	return now, s
}

func (o *tale) numbers() (list []int) {
	for i, stands := range o.stands {
		if stands {
			list = append(list, i+1)
		}
	}
	return list
}

func (o *tale) both() (list []int) {
	for part := range 10 {
		hands := map[int]bool{}
		for i, stands := range o.stands {
			if stands && partOf[o.l[i].Kind] == part {
				hands[o.l[i].Hand] = true
			}
		}
		if len(hands) == 2 {
			list = append(list, part)
		}
	}
	return list
}

// asked is the answer to a question by the functions of the chapters.
func asked(t *testing.T, b api.YardBook, q api.YardAsk) (yes bool, proof []int, s api.Snag) {
	t.Helper()
	number, found := 0, true
	switch q.Kind {
	case api.YardWrong:
		proof, s = offsets.Fewest(b.Table)
		number = len(proof)
	case api.YardStraight:
		proof, number, s = batten.Straightest(b.Line)
	case api.YardLean:
		proof, number, s = frame.Leanest(b.Frame)
	case api.YardCut:
		var cuts []api.MouldCut
		cuts, number, found, s = mould.Fewest(b.Mould)
		for _, x := range cuts {
			proof = append(proof, x.Board, x.From)
		}
	case api.YardPlanked:
		var layout [][]int
		layout, number, found, s = butt.Fewest(b.Butts)
		for _, butts := range layout {
			proof = append(append(proof, butts...), 0)
		}
	case api.YardShift:
		if q.A != 0 {
			return false, nil, api.Form
		}
		shift, is, snag := spile.Surely(b.Spile)
		proof, found, s = on(shift), is, snag
	case api.YardRead:
		proof, s = bevel.Fewest(b.Bevel)
		number = len(proof)
	case api.YardHands:
		number, found, s = steam.Fewest(b.Steam)
		if found {
			x := b.Steam
			x.Hands = number
			plan, _, _, _ := steam.Soonest(x)
			proof = append(on(number), plan...)
		}
	case api.YardSettled:
		if q.A < 0 || q.A > 8 {
			return false, nil, api.Absent
		}
		return boatsOf(t, b)[q.A] == 1, nil, api.Clear
	default:
		return false, nil, api.Range
	}
	if s != api.Clear || !found || number > q.A {
		return false, nil, s
	}
	return true, proof, s
}

// ways are all lists that have a number of each span.
func ways(spans ...api.Span) [][]int {
	all := [][]int{nil}
	for _, x := range spans {
		var longer [][]int
		for _, l := range all {
			for n := x.Low; n <= x.High; n++ {
				longer = append(longer, append(slices.Clone(l), n))
			}
		}
		all = longer
	}
	return all
}

// spansOf are the spans of some things.
func spansOf[T any](things []T, span func(T) api.Span) (spans []api.Span) {
	for _, x := range things {
		spans = append(spans, span(x))
	}
	return spans
}

// shows tells whether a list shows that the answer to a question is yes, by going through all boats.
func shows(t *testing.T, b api.YardBook, q api.YardAsk, list []int) bool {
	t.Helper()
	switch q.Kind {
	case api.YardWrong:
		return showsWrong(b.Table, q.A, list)
	case api.YardStraight:
		is, s := batten.IsBoat(b.Line, list)
		strain := 0
		for i := 2; is && i < len(list); i++ {
			bend := list[i-2] + list[i] - 2*list[i-1]
			strain += bend * bend
		}
		return s == api.Clear && is && strain <= q.A
	case api.YardLean:
		is, s := frame.IsBoat(b.Frame, list)
		area := 0
		for i := 1; is && i < len(list); i++ {
			area += (list[i] + list[i-1]) * (b.Frame.Points[i].Height - b.Frame.Points[i-1].Height)
		}
		return s == api.Clear && is && area <= q.A
	case api.YardCut:
		return showsCut(b.Mould, q.A, list)
	case api.YardPlanked:
		return showsPlanked(b.Butts, q.A, list)
	case api.YardShift:
		return len(list) == 1 && showsShift(b.Spile, list[0])
	case api.YardRead:
		x := b.Bevel
		x.Wrong, x.Readings = 0, nil
		for i, reading := range b.Bevel.Readings {
			if !slices.Contains(list, i) {
				x.Readings = append(x.Readings, reading)
			}
		}
		many, _ := bevel.Boats(x)
		return many > 0 && areSome(list, len(b.Bevel.Readings), q.A)
	case api.YardHands:
		return len(list) > 0 && list[0] >= 1 && list[0] <= min(q.A, 3) && showsHands(b.Steam, list[0], list[1:])
	}
	return len(list) == 0 && boatsOf(t, b)[q.A] == 1
}

// areSome tells whether a list has indexes of so many things, ascending, and no more than most of them.
func areSome(list []int, many, most int) bool {
	for i, n := range list {
		if n < 0 || n >= many || i > 0 && n <= list[i-1] {
			return false
		}
	}
	return len(list) <= most
}

func showsWrong(b api.OffsetsTable, most int, list []int) bool {
	cells, _ := offsets.Cells(b)
	if !areSome(list, len(cells), most) {
		return false
	}
	x := copied(b)
	x.Wrong = 0
	for _, i := range list {
		c := cells[i]
		lines := x.Waters
		if c.Butt {
			lines = x.Butts
		}
		lines[c.Line].Figures[c.Station] = "-"
	}
	many, _ := offsets.Boats(x)
	return many > 0
}

func showsCut(b api.MouldBook, most int, list []int) bool {
	if len(list) != 2*len(b.Pieces) {
		return false
	}
	var cuts []api.MouldCut
	boards := map[int]bool{}
	for i := range b.Pieces {
		cuts = append(cuts, api.MouldCut{Board: list[2*i], From: list[2*i+1]})
		boards[list[2*i]] = true
	}
	for _, lengths := range ways(spansOf(b.Pieces, func(x api.MouldPiece) api.Span { return x.Length })...) {
		is, _ := mould.IsBoat(b, lengths)
		if fits, s := mould.Fits(b, lengths, cuts); is && (!fits || s != api.Clear) {
			return false
		}
	}
	return len(boards) <= most
}

func showsPlanked(b api.ButtBook, most int, list []int) bool {
	var layout [][]int
	planks := 0
	for rest := list; len(rest) > 0; {
		end := slices.Index(rest, 0)
		if end < 0 {
			return false
		}
		layout = append(layout, rest[:end])
		planks += end + 1
		rest = rest[end+1:]
	}
	for _, numbers := range ways(spansOf(b.Kinds, func(x api.ButtKind) api.Span { return x.Many })...) {
		is, _ := butt.IsBoat(b, numbers)
		if _, _, found, s := butt.Take(b, layout, numbers); is && (!found || s != api.Clear) {
			return false
		}
	}
	return planks <= most
}

func showsShift(b api.SpileBook, shift int) bool {
	slips := []api.SpileSlip{{}}
	for before := 1; before < len(b.Points); before++ {
		for by := -b.Slip; by <= b.Slip; by++ {
			if by != 0 {
				slips = append(slips, api.SpileSlip{Before: before, By: by})
			}
		}
	}
	if shift < -9999 || shift > 9999 {
		return false
	}
	for _, marks := range ways(spansOf(b.Points, func(x api.SpilePoint) api.Span { return x.Mark })...) {
		for _, k := range slips {
			if is, _ := spile.IsBoat(b, marks, k); !is {
				continue
			}
			gaps, _ := spile.Gaps(b, marks, k)
			for i, x := range b.Points {
				if gaps[i]+shift < x.Board.Low || gaps[i]+shift+x.Width > x.Board.High {
					return false
				}
			}
		}
	}
	return true
}

func showsHands(b api.SteamBook, hands int, plan []int) bool {
	b.Hands = hands
	for _, times := range ways(spansOf(b.Planks, func(x api.SteamPlank) api.Span { return x.Steam })...) {
		if is, _ := steam.IsBoat(b, times); !is {
			continue
		}
		cold, s := steam.Cold(b, times, plan)
		end, _ := steam.End(b, times, plan)
		if s != api.Clear || len(cold) > 0 || end > b.Tide {
			return false
		}
	}
	return true
}
