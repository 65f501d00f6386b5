package yard_test

import (
	"math/rand"
	"reflect"
	"slices"
	"strings"
	"sync"
	"testing"

	"ribband/api"
	"ribband/yard"
)

// call is a function that was called; its results come with the snag last.
type call struct {
	name    string
	results []any
}

func row(results ...any) []any { return results }

// news is what a book is asked about, or what is entered of it.
type news struct {
	other       api.YardBook
	height, gap int
	entry       api.YardEntry
	journal     []api.YardEntry
	ask         api.YardAsk
	proof       []int
	orders      string
}

// calls calls each function that has a book among its arguments.
func calls(b api.YardBook, n news) []call {
	return []call{
		{"CheckBook", row(yard.CheckBook(b))},
		{"Write", row(yard.Write(b))},
		{"Differ", row(yard.Differ(b, n.other))},
		{"Boats", row(yard.Boats(b))},
		{"Due", row(yard.Due(b))},
		{"Plane", row(yard.Plane(b, n.height, n.gap))},
		{"Do", row(yard.Do(b, n.entry))},
		{"Play", row(yard.Play(b, n.journal))},
		{"Stands", row(yard.Stands(b, n.journal))},
		{"Both", row(yard.Both(b, n.journal))},
		{"Ask", row(yard.Ask(b, n.ask))},
		{"Judge", row(yard.Judge(b, n.ask, n.proof))},
		{"Clerk", row(yard.Clerk(b, n.orders))},
	}
}

func isZero(v any) bool { return equal(v, reflect.Zero(reflect.TypeOf(v)).Interface()) }

// snagOf returns the snag of results, which are zero if there is one.
func snagOf(t *testing.T, results []any) api.Snag {
	t.Helper()
	last := len(results) - 1
	s := results[last].(api.Snag)
	if s != api.Clear && slices.ContainsFunc(results[:last], func(v any) bool { return !isZero(v) }) {
		t.Error("with a snag there is a result", results)
	}
	return s
}

func strangeNews(t *testing.T, r *rand.Rand) news {
	b := randomBook(t, r)
	n := news{other: b, height: pick(r), gap: pick(r), entry: strangeEntry(r), ask: anyAsk(r), orders: anyOf(r, []string{"", "\x00\n", "ask", "judge cut 1 none\nask shift 0\n", strings.Repeat("\n", 13), "entry 0 lose 0 0 0 0 -\n"})}
	for range r.Intn(14) {
		n.journal = append(n.journal, anyEntry(r, b, 5))
		n.proof = append(n.proof, pick(r))
	}
	if r.Intn(3) == 0 {
		n.other = strangeBook(t, r)
	}
	return n
}

// leaves are the numbers, strings and lists of a value, whichever can be changed.
func leaves(v reflect.Value) (all []reflect.Value) {
	switch v.Kind() {
	case reflect.Struct:
		for i := range v.NumField() {
			all = append(all, leaves(v.Field(i))...)
		}
	case reflect.Slice:
		all = append(all, v)
		for i := range v.Len() {
			all = append(all, leaves(v.Index(i))...)
		}
	case reflect.Int, reflect.String:
		all = append(all, v)
	}
	return all
}

// strangeBook is a book in which something is strange.
func strangeBook(t *testing.T, r *rand.Rand) api.YardBook {
	b := copied(randomBook(t, r))
	x := anyOf(r, leaves(reflect.ValueOf(&b).Elem()))
	switch x.Kind() {
	case reflect.Int:
		x.SetInt(int64(pick(r)))
	case reflect.String:
		x.SetString(anyOf(r, []string{"", "a", "B", "9", "a b", "\xff", "-", "1-2-3", "?-?-?", "abcdefghijk"}))
	case reflect.Slice:
		x.Set(reflect.AppendSlice(x.Slice(0, r.Intn(x.Len()+1)), copyValue(x)))
	}
	return b
}

func TestP0_1Always(t *testing.T) {
	r := rand.New(rand.NewSource(1))
	for range 400 {
		b, n := strangeBook(t, r), strangeNews(t, r)
		if r.Intn(3) == 0 {
			b = copied(randomBook(t, r))
		}
		was, with := copied(b), copied(n.other)
		if !reflect.DeepEqual(calls(b, n), calls(b, n)) || !equal(b, was) || !equal(n.other, with) {
			t.Fatal(b, n)
		}
	}
	for _, text := range []string{"", "\x00", "begin offsets", "begin offsets\nend", strings.Repeat("\xff ", 9), strings.Repeat("\n", 50000), "begin offsets\n" + strings.Repeat("\n", 49000) + "end offsets 1\n", strings.Repeat("end ", 9999), strings.Repeat("begin offsets\n", 3000)} {
		b, line, s := yard.Read(text)
		if c, other, again := yard.Read(text); s == api.Clear || other != line || again != s || !equal(b, c) {
			t.Errorf("%.60q: %v %v", text, line, s)
		}
	}
	for range 2000 {
		e := strangeEntry(r)
		line, s := yard.Put(e)
		again, snag := yard.Put(e)
		if line != again || s != snag {
			t.Error(e)
		}
		text := []byte(line + "entry 0 lose 0 0 0 0 -")
		text[r.Intn(len(text))] = byte(r.Intn(256))
		taken, s := yard.Take(string(text))
		if s != api.Clear && (s != api.Form || taken != (api.YardEntry{})) {
			t.Errorf("%q %v %v", text, taken, s)
		}
	}
}

// Lists can be of any length.
func TestP0_1Long(t *testing.T) {
	y, many := bookY(t), make([]int, 1<<20)
	for i := range many {
		many[i] = i
	}
	for kind := range api.YardSettled + 1 {
		if right, s := yard.Judge(y, ask(kind, 0), many); right || s != api.Clear {
			t.Error(kind, right, s)
		}
		if right, s := yard.Judge(y, ask(kind, 0), make([]int, 1<<20)); right || s != api.Clear {
			t.Error(kind, right, s)
		}
	}
	n := news{other: y, height: 64, gap: 1, journal: make([]api.YardEntry, 1<<20), orders: strings.Repeat("\n", 1<<20)}
	for _, c := range calls(y, n)[7:] {
		want := api.Many
		if c.name == "Ask" || c.name == "Judge" {
			want = api.Clear
		}
		if s := snagOf(t, c.results); s != want {
			t.Error(c.name, s)
		}
	}
	y.Bills = make([]api.YardBill, 1<<20)
	if s := yard.CheckBook(y); s != api.Many {
		t.Error(s)
	}
	long := strings.Repeat("a", 1<<20)
	if line, s := yard.Put(api.YardEntry{S: long}); line != "entry 0 strike 0 0 0 0 "+long || s != api.Clear {
		t.Error(s)
	}
	if e, s := yard.Take("entry 0 strike 0 0 0 0 " + long); e.S != long || s != api.Clear {
		t.Error(s)
	}
	if _, s := yard.Take(strings.Repeat(" ", 1<<20)); s != api.Form {
		t.Error(s)
	}
}

func TestP0_1Together(t *testing.T) {
	y, z := bookY(t), bookOf(t, but(0, textZ))
	n := news{other: z, height: 64, gap: 6, entry: length(0, 0, 5), journal: journalJ(), ask: ask(api.YardCut, 2), proof: on(1, 0, 0, 0, 0, 4), orders: "ask hands 1\nentry 0 lose 0 0 0 0 -\n"}
	all := func() []call { return slices.Concat(calls(y, n), calls(z, n)) }
	want := all()
	var group sync.WaitGroup
	for range 16 {
		group.Add(1)
		go func() {
			defer group.Done()
			for range 10 {
				if got := all(); !reflect.DeepEqual(got, want) {
					t.Error(got)
				}
			}
		}()
	}
	group.Wait()
}

// The book's snag comes first, and with a snag all other results are zero.
func TestP0_2Snags(t *testing.T) {
	r := rand.New(rand.NewSource(3))
	seen := map[api.Snag]int{}
	for range 1500 {
		b, n := strangeBook(t, r), strangeNews(t, r)
		want := yard.CheckBook(b)
		seen[want]++
		for _, c := range calls(b, n) {
			if s := snagOf(t, c.results); want != api.Clear && s != want {
				t.Fatal(c, b, s)
			}
		}
		if l, s := yard.Differ(bookY(t), b); s != want || s != api.Clear && len(l) > 0 {
			t.Fatal(b, l, s)
		}
	}
	for _, s := range []api.Snag{api.Clear, api.Range, api.Many, api.Form, api.Name, api.Again, api.Absent, api.Turned} {
		if seen[s] < 10 {
			t.Error("books are too much alike", seen)
		}
	}
}

// The book comes before what else is handed in.
func TestP0_2Order(t *testing.T) {
	y, bad, worse := bookY(t), bookY(t), bookY(t)
	bad.Line.Bend, worse.Steam.Planks = -1, nil
	long := make([]api.YardEntry, 13)
	for i, x := range []struct {
		results []any
		want    api.Snag
	}{
		{row(yard.Differ(bad, worse)), api.Range},
		{row(yard.Differ(worse, bad)), api.Many},
		{row(yard.Differ(y, worse)), api.Many},
		{row(yard.Differ(y, bad)), api.Range},
		{row(yard.Plane(worse, -1, 0)), api.Many},
		{row(yard.Plane(y, -1, 0)), api.Range}, // before how many stations there are
		{row(yard.Do(worse, api.YardEntry{Kind: 14})), api.Many},
		{row(yard.Do(y, api.YardEntry{Kind: 14})), api.Range},
		{row(yard.Play(bad, long)), api.Range},
		{row(yard.Play(y, long)), api.Many},
		{row(yard.Stands(bad, long)), api.Range},
		{row(yard.Stands(y, long)), api.Many},
		{row(yard.Both(bad, long)), api.Range},
		{row(yard.Both(y, long)), api.Many},
		{row(yard.Ask(worse, ask(9, 0))), api.Many},
		{row(yard.Ask(y, ask(9, 0))), api.Range},
		{row(yard.Judge(worse, ask(9, 0), nil)), api.Many},
		{row(yard.Judge(y, ask(9, 0), nil)), api.Range},
		{row(yard.Judge(y, ask(api.YardSettled, 9), on(1, 2))), api.Absent},
		{row(yard.Clerk(bad, strings.Repeat("\n", 13))), api.Range},
		{row(yard.Clerk(y, strings.Repeat("\n", 13))), api.Many},
	} {
		if s := snagOf(t, x.results); s != x.want {
			t.Error(i, s)
		}
	}
}

// It makes no difference whether a slice is nil or empty (R3).
func TestEmpty(t *testing.T) {
	texts := textsY()
	for i := range texts {
		texts[i] = papers[i][1]
	}
	b := bookOf(t, texts)
	e := copied(b) // which has empty lists where b has none
	n := news{other: e, height: 64, gap: 6, entry: api.YardEntry{Kind: api.YardLose}, ask: ask(api.YardSettled, 4)}
	m := n
	m.other, m.journal, m.proof = b, []api.YardEntry{}, []int{}
	two := calls(e, m)
	for i, c := range calls(b, n) {
		for k, x := range c.results {
			if !equal(x, two[i].results[k]) {
				t.Error(c, two[i])
			}
		}
	}
	if l, s := yard.Differ(b, e); len(l) > 0 || s != api.Clear {
		t.Error(l, s)
	}
}

// memory tells where the lists of values are, from their beginnings to the ends of their memory.
func memory(values ...any) (all [][2]uintptr) {
	for _, x := range values {
		for _, v := range leaves(reflect.ValueOf(x)) {
			if v.Kind() == reflect.Slice && v.Cap() > 0 {
				begin := v.Pointer()
				all = append(all, [2]uintptr{begin, begin + uintptr(v.Cap())*v.Type().Elem().Size()})
			}
		}
	}
	return all
}

// isShared tells whether two of several lists have memory together.
func isShared(all [][2]uintptr) bool {
	slices.SortFunc(all, func(a, b [2]uintptr) int { return int(a[0]) - int(b[0]) })
	for i := range len(all) - 1 {
		if all[i][1] > all[i+1][0] {
			return true
		}
	}
	return false
}

// behind is all that lies behind the ends of lists.
func behind(v reflect.Value) (all []any) {
	for _, x := range leaves(v) {
		if x.Kind() == reflect.Slice {
			for i := x.Len(); i < x.Cap(); i++ {
				all = append(all, x.Slice(0, x.Cap()).Index(i).Interface())
			}
		}
	}
	return all
}

// No argument is changed, and no result shares memory with one, or with itself (R4).
func TestMemory(t *testing.T) {
	eachBook(t, 150, func(t *testing.T, b api.YardBook, r *rand.Rand) {
		b = copied(b)
		was, rest := copied(b), behind(reflect.ValueOf(b))
		n := news{other: copied(b), height: 64, gap: 6, entry: likelyEntry(r, b, 3), journal: anyJournal(r, b), ask: anyAsk(r), orders: "entry 0 lose 0 0 0 0 -\n"}
		_, n.proof, _ = yard.Ask(b, n.ask)
		l, proof := slices.Clone(n.journal), slices.Clone(n.proof)
		for _, c := range calls(b, n) {
			if isShared(memory(append(c.results, b, n.other, n.journal, n.proof)...)) {
				t.Error("memory is shared", c)
			}
		}
		if !equal(b, was) || !reflect.DeepEqual(behind(reflect.ValueOf(b)), rest) || !slices.Equal(n.journal, l) || !slices.Equal(n.proof, proof) {
			t.Error("an argument was changed", b, was)
		}
	})
}

// What was returned can be changed: what is returned next is as before.
func TestMemoryOfResults(t *testing.T) {
	y := bookY(t)
	for i, find := range []func() any{
		func() any { l, _ := yard.Boats(y); return l },
		func() any { l, _ := yard.Due(y); return l },
		func() any { l, _ := yard.Differ(y, bookOf(t, but(3, papers[3][1]))); return l },
		func() any { l, _ := yard.Stands(y, journalJ()); return l },
		func() any { l, _ := yard.Both(y, []api.YardEntry{drop(0, 0), drop(1, 0)}); return l },
		func() any { _, l, _ := yard.Ask(y, ask(api.YardStraight, 1)); return l },
		func() any { _, l, _ := yard.Ask(y, ask(api.YardPlanked, 4)); return l },
		func() any { b, _ := yard.Do(y, length(0, 0, 5)); return b },
		func() any { _, b, _ := yard.Play(y, nil); return b },
		func() any { _, b, _ := yard.Clerk(y, ""); return b },
	} {
		first := find()
		want := copied(first)
		for _, v := range leaves(copyOfPlace(first)) {
			if v.Kind() == reflect.Int {
				v.SetInt(-7)
			}
		}
		if got := find(); !equal(got, want) || equal(first, want) || textsOf(t, y) != textsY() {
			t.Error(i, got, want)
		}
	}
}

// copyOfPlace is a value whose lists are those of x, and which can be changed.
func copyOfPlace(x any) reflect.Value {
	v := reflect.New(reflect.TypeOf(x)).Elem()
	v.Set(reflect.ValueOf(x))
	return v
}
