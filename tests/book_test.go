package tests

import (
	"fmt"
	"math"
	"math/rand"
	"slices"
	"testing"

	"loop.example/lapplan/impl"
)

func field(what, number int, value string) impl.PlanField {
	return impl.PlanField{What: what, Number: number, Value: value}
}

func entry(name string, fields ...impl.PlanField) impl.PlanEntry {
	return impl.PlanEntry{Name: name, Fields: withSpare(field(99, 99, "noise"), fields...)}
}

func bookWith(entries ...impl.PlanEntry) impl.PlanBook {
	return impl.PlanBook{Base: sampleBase(), Entries: withSpare(entry("noise"), entries...)}
}

func sampleBook() impl.PlanBook {
	return bookWith(
		entry("b", field(3, 4, "2")),
		entry("kl1", field(1, 1, "jet"), field(2, 7, "5 6"), field(3, 2, "4"), field(4, 1000000, "a b c"), field(5, 1, "open")),
		entry("x-9", field(2, 3, "0 10000"), field(5, 2, "closed")),
	)
}

func change(flight string, what, number int, value string) impl.PlanChange {
	return impl.PlanChange{Flight: flight, What: what, Number: number, Value: value}
}

// flightNames are ascending.
func flightNames(n int) []string {
	var names []string
	for i := range n {
		names = append(names, fmt.Sprintf("f%02d", i))
	}
	return names
}

// manyEntries is ok but for the number of its entries.
func manyEntries(n int) impl.PlanBook {
	var entries []impl.PlanEntry
	for _, name := range flightNames(n) {
		entries = append(entries, entry(name, field(3, 5, "3")))
	}
	return bookWith(entries...)
}

// brokenBooks are not ok, each in one way that the document names.
func brokenBooks() map[string]impl.PlanBook {
	books := map[string]impl.PlanBook{"one flight too many": manyEntries(impl.PlanMaxFlights + 1), "many too many": manyEntries(60)}
	for i, base := range brokenBases() {
		book := sampleBook()
		book.Base = base
		books[fmt.Sprintf("base %d", i)] = book
		books[fmt.Sprintf("base %d alone", i)] = impl.PlanBook{Base: base}
	}
	other := sampleBook()
	other.Base = impl.PlanBase{}
	books["a base that has none of the names"] = other
	for name, breakIt := range map[string]func(b *impl.PlanBook){
		"entries the wrong way round": func(b *impl.PlanBook) { b.Entries[0], b.Entries[1] = b.Entries[1], b.Entries[0] },
		"the last entry falls back":   func(b *impl.PlanBook) { b.Entries[2].Name = "a" },
		"two entries of one name":     func(b *impl.PlanBook) { b.Entries[2].Name = "kl1" },
		"a name behind its beginning": func(b *impl.PlanBook) { b.Entries[0].Name, b.Entries[1].Name = "kl1-", "kl1" },
		"no name":                     func(b *impl.PlanBook) { b.Entries[0].Name = "" },
		"a long name":                 func(b *impl.PlanBook) { b.Entries[1].Name = "kl1234567" },
		"a capital in a name":         func(b *impl.PlanBook) { b.Entries[0].Name = "B" },
		"a bad byte in a name":        func(b *impl.PlanBook) { b.Entries[2].Name = "x\xff" },
		"no fields":                   func(b *impl.PlanBook) { b.Entries[1].Fields = nil },
		"no fields of the first":      func(b *impl.PlanBook) { b.Entries[0].Fields = b.Entries[0].Fields[:0] },
		"no fields of the last":       func(b *impl.PlanBook) { b.Entries[2].Fields = []impl.PlanField{} },
		"fields the wrong way round": func(b *impl.PlanBook) {
			f := b.Entries[1].Fields
			f[0], f[1] = f[1], f[0]
		},
		"fields in between the wrong way round": func(b *impl.PlanBook) {
			f := b.Entries[1].Fields
			f[2], f[3] = f[3], f[2]
		},
		"the last field falls back": func(b *impl.PlanBook) { b.Entries[1].Fields[4] = field(1, 1, "jet") },
		"one thing twice":           func(b *impl.PlanBook) { b.Entries[1].Fields[1] = field(1, 1, "jet") },
		"one thing twice, later":    func(b *impl.PlanBook) { b.Entries[1].Fields[1] = field(1, 2, "glider") },
		"a What too low":            func(b *impl.PlanBook) { b.Entries[1].Fields[0].What = 0 },
		"a What below 0":            func(b *impl.PlanBook) { b.Entries[1].Fields[0].What = math.MinInt },
		"a What too high":           func(b *impl.PlanBook) { b.Entries[2].Fields[1].What = 6 },
		"the greatest What":         func(b *impl.PlanBook) { b.Entries[1].Fields[4].What = math.MaxInt },
		"a Number too low":          func(b *impl.PlanBook) { b.Entries[0].Fields[0].Number = 0 },
		"a Number too high":         func(b *impl.PlanBook) { b.Entries[1].Fields[3].Number = impl.PlanMaxNumber + 1 },
		"a kind that is none":       func(b *impl.PlanBook) { b.Entries[1].Fields[0].Value = "kite" },
		"a time the wrong way":      func(b *impl.PlanBook) { b.Entries[2].Fields[0].Value = "6 5" },
		"a level too high":          func(b *impl.PlanBook) { b.Entries[0].Fields[0].Value = "7" },
		"a point that is none":      func(b *impl.PlanBook) { b.Entries[1].Fields[3].Value = "a d" },
		"a state that is none":      func(b *impl.PlanBook) { b.Entries[2].Fields[1].Value = "shut" },
		"no value":                  func(b *impl.PlanBook) { b.Entries[1].Fields[2].Value = "" },
	} {
		book := sampleBook()
		breakIt(&book)
		books[name] = book
	}
	return books
}

func TestMaxFlightsIsTheDocuments(t *testing.T) {
	if impl.PlanMaxFlights != 12 {
		t.Error(impl.PlanMaxFlights)
	}
}

func TestBookOk(t *testing.T) {
	for name, book := range map[string]impl.PlanBook{
		"nothing":      {},
		"base alone":   {Base: sampleBase()},
		"empty lists":  {Base: impl.PlanBase{Kinds: []impl.PlanKind{}}, Entries: []impl.PlanEntry{}},
		"sample":       sampleBook(),
		"most flights": manyEntries(impl.PlanMaxFlights),
		"what needs no base": {Entries: []impl.PlanEntry{
			{Name: "-", Fields: []impl.PlanField{{What: 2, Number: 1, Value: "0 0"}, {What: 3, Number: 1000000, Value: "6"}}},
			{Name: "0", Fields: []impl.PlanField{{What: 5, Number: 1, Value: "closed"}}},
			{Name: "00000000", Fields: []impl.PlanField{{What: 3, Number: 1, Value: "1"}}},
		}},
	} {
		if !impl.PlanBookOk(book) {
			t.Errorf("%s: not ok", name)
		}
	}
	for name, book := range brokenBooks() {
		if impl.PlanBookOk(book) {
			t.Errorf("%s: ok", name)
		}
	}
}

func TestTakeIntoABookThatIsNotOk(t *testing.T) {
	for name, book := range brokenBooks() {
		for _, c := range []impl.PlanChange{change("kl1", 3, 9, "1"), change("new", 3, 9, "1"), change("kl1", 3, 0, "1"), {}} {
			if got, code := impl.PlanTake(book, c); code != 1 || !same(got, impl.PlanBook{}) {
				t.Errorf("%s: %+v, %d", name, got, code)
			}
		}
	}
}

// wrongChanges are not ok on the sample base, whatever the book.
func wrongChanges(flight string) []impl.PlanChange {
	wrong := []impl.PlanChange{{}, change("", 3, 9, "1"), change("Kl1", 3, 9, "1"), change("kl1234567", 3, 9, "1"), change("kl1\n", 3, 9, "1")}
	for _, number := range badNumbers() {
		wrong = append(wrong, change(flight, 3, number, "1"))
	}
	for _, what := range []int{0, 6, -1, math.MinInt, math.MaxInt} {
		wrong = append(wrong, change(flight, what, 9, "1"), change(flight, what, 9, "open"))
	}
	for what := 1; what <= 5; what++ {
		wrong = append(wrong, change(flight, what, 9, ""), change(flight, what, 9, "zz"), change(flight, what, 9, "7"))
	}
	return wrong
}

func checkTake(t *testing.T, book impl.PlanBook, c impl.PlanChange, want impl.PlanBook, wantCode int) {
	t.Helper()
	got, code := impl.PlanTake(book, c)
	if code != wantCode || !same(got, want) {
		t.Errorf("PlanTake(_, %+v) = %+v, %d; not %+v, %d", c, got, code, want, wantCode)
	}
}

func TestTakeOfAChangeThatIsNotOk(t *testing.T) {
	for _, book := range []impl.PlanBook{{Base: sampleBase()}, sampleBook(), manyEntries(impl.PlanMaxFlights)} {
		for _, flight := range []string{"kl1", "new", "f00"} {
			for _, c := range wrongChanges(flight) {
				checkTake(t, book, c, book, 2)
			}
		}
	}
	checkTake(t, impl.PlanBook{}, change("kl1", 1, 1, "jet"), impl.PlanBook{}, 2)
}

func TestTakeWithoutRoom(t *testing.T) {
	full := manyEntries(impl.PlanMaxFlights)
	for _, flight := range []string{"a", "f055", "z"} {
		for what, value := range fitting() {
			checkTake(t, full, change(flight, what, 9, value), full, 3)
			book := manyEntries(impl.PlanMaxFlights - 1)
			got, code := impl.PlanTake(book, change(flight, what, 9, value))
			if code != 0 || len(got.Entries) != impl.PlanMaxFlights || !impl.PlanBookOk(got) {
				t.Errorf("%s, what %d: %+v, %d", flight, what, got, code)
			}
		}
	}
	for i, flight := range flightNames(impl.PlanMaxFlights) {
		want := manyEntries(impl.PlanMaxFlights)
		want.Entries[i].Fields[0] = field(3, 6, "1")
		checkTake(t, full, change(flight, 3, 6, "1"), want, 0)
		checkTake(t, full, change(flight, 3, 4, "1"), full, 0)
		want.Entries[i].Fields = []impl.PlanField{field(3, 5, "3"), field(5, 1, "open")}
		checkTake(t, full, change(flight, 5, 1, "open"), want, 0)
	}
}

func TestTakePutsEachThingInItsPlace(t *testing.T) {
	none := bookWith()
	for what, value := range fitting() {
		for _, number := range []int{1, 2, impl.PlanMaxNumber} {
			checkTake(t, none, change("kl1", what, number, value), bookWith(entry("kl1", field(what, number, value))), 0)
		}
	}
	sample := sampleBook().Entries
	for _, c := range []struct {
		name  string
		place int
	}{{"a", 0}, {"-", 0}, {"b-", 1}, {"c", 1}, {"kl", 1}, {"kl11", 2}, {"x", 2}, {"x-", 2}, {"x-90", 3}, {"z", 3}} {
		want := slices.Insert(slices.Clone(sample), c.place, entry(c.name, field(3, 9, "1")))
		checkTake(t, sampleBook(), change(c.name, 3, 9, "1"), bookWith(want...), 0)
	}
	one := bookWith(entry("k", field(3, 4, "2")))
	checkTake(t, one, change("k", 1, 1, "jet"), bookWith(entry("k", field(1, 1, "jet"), field(3, 4, "2"))), 0)
	checkTake(t, one, change("k", 2, 1, "1 2"), bookWith(entry("k", field(2, 1, "1 2"), field(3, 4, "2"))), 0)
	checkTake(t, one, change("k", 4, 1, "a b"), bookWith(entry("k", field(3, 4, "2"), field(4, 1, "a b"))), 0)
	checkTake(t, one, change("k", 5, 1, "open"), bookWith(entry("k", field(3, 4, "2"), field(5, 1, "open"))), 0)
}

// Promise 2, and what is later: the Number first, then the Value by its bytes.
func TestWhatIsLaterStays(t *testing.T) {
	for _, c := range []struct {
		what           int
		earlier, later impl.PlanField
	}{
		{3, field(3, 1, "6"), field(3, 2, "1")},
		{3, field(3, 9, "6"), field(3, 10, "1")},
		{3, field(3, 1, "6"), field(3, 1000000, "1")},
		{3, field(3, 999999, "1"), field(3, 1000000, "1")},
		{3, field(3, 5, "1"), field(3, 5, "2")},
		{1, field(1, 5, "glider"), field(1, 5, "jet")},
		{2, field(2, 5, "10 20"), field(2, 5, "9 10")},
		{2, field(2, 5, "1 20"), field(2, 5, "1 3")},
		{2, field(2, 5, "1 2"), field(2, 5, "1 20")},
		{2, field(2, 5, "1 9"), field(2, 5, "10 10")},
		{4, field(4, 5, "a b"), field(4, 5, "a b a")},
		{4, field(4, 5, "a b"), field(4, 5, "a-1 a")},
		{4, field(4, 5, "a b c b"), field(4, 5, "a c")},
		{5, field(5, 5, "closed"), field(5, 5, "open")},
		{5, field(5, 5, "open"), field(5, 6, "closed")},
		{5, field(5, 5, "closed"), field(5, 6, "closed")},
	} {
		early := change("k", c.what, c.earlier.Number, c.earlier.Value)
		late := change("k", c.what, c.later.Number, c.later.Value)
		checkTake(t, bookWith(entry("k", c.earlier)), late, bookWith(entry("k", c.later)), 0)
		checkTake(t, bookWith(entry("k", c.later)), early, bookWith(entry("k", c.later)), 0)
		checkTake(t, bookWith(entry("k", c.later)), late, bookWith(entry("k", c.later)), 0)
		checkTake(t, bookWith(entry("k", c.earlier)), early, bookWith(entry("k", c.earlier)), 0)
		merged, code := impl.PlanMerge(bookWith(entry("k", c.earlier)), bookWith(entry("k", c.later)))
		turned, turnedCode := impl.PlanMerge(bookWith(entry("k", c.later)), bookWith(entry("k", c.earlier)))
		if want := bookWith(entry("k", c.later)); code != 0 || turnedCode != 0 || !same(merged, want) || !same(turned, want) {
			t.Errorf("%+v: merged to %+v, %+v", c, merged, turned)
		}
	}
}

// thing and model are the document's words on books, written down a second time.
type thing struct {
	flight string
	what   int
}

type model map[thing]impl.PlanField

func (m model) flights() []string {
	var names []string
	for at := range m {
		if !slices.Contains(names, at.flight) {
			names = append(names, at.flight)
		}
	}
	slices.Sort(names)
	return names
}

func (m model) take(c impl.PlanChange) {
	at := thing{c.Flight, c.What}
	old, said := m[at]
	if !said || c.Number > old.Number || c.Number == old.Number && c.Value > old.Value {
		m[at] = field(c.What, c.Number, c.Value)
	}
}

func (m model) book(base impl.PlanBase) impl.PlanBook {
	book := impl.PlanBook{Base: base}
	for _, name := range m.flights() {
		e := impl.PlanEntry{Name: name}
		for what := 1; what <= 5; what++ {
			if f, said := m[thing{name, what}]; said {
				e.Fields = append(e.Fields, f)
			}
		}
		book.Entries = append(book.Entries, e)
	}
	return book
}

func modelOf(changes ...impl.PlanChange) model {
	m := model{}
	for _, c := range changes {
		m.take(c)
	}
	return m
}

func changesIn(b impl.PlanBook) []impl.PlanChange {
	var changes []impl.PlanChange
	for _, e := range b.Entries {
		for _, f := range e.Fields {
			changes = append(changes, change(e.Name, f.What, f.Number, f.Value))
		}
	}
	return changes
}

// randomChange is ok on the sample base, with few names and Numbers, so that changes meet.
func randomChange(r *rand.Rand, flights []string) impl.PlanChange {
	values := [][]string{nil, {"glider", "jet"}, {"0 0", "5 6", "10 20", "9 10", "1 10000"}, {"1", "2", "6"}, {"a b", "b a", "a b c", "a-1 c"}, {"open", "closed"}}
	what := 1 + r.Intn(5)
	number := 1 + r.Intn(3)
	if r.Intn(10) == 0 {
		number = impl.PlanMaxNumber - r.Intn(2)
	}
	return change(flights[r.Intn(len(flights))], what, number, values[what][r.Intn(len(values[what]))])
}

func randomChanges(r *rand.Rand, most int, flights []string) []impl.PlanChange {
	var changes []impl.PlanChange
	for range r.Intn(most + 1) {
		changes = append(changes, randomChange(r, flights))
	}
	return changes
}

func takeEach(t *testing.T, book impl.PlanBook, changes []impl.PlanChange) impl.PlanBook {
	t.Helper()
	for _, c := range changes {
		taken, code := impl.PlanTake(book, c)
		if code != 0 {
			t.Fatalf("PlanTake(%+v, %+v): code %d", book, c, code)
		}
		book = taken
	}
	return book
}

func orders(list []impl.PlanChange) [][]impl.PlanChange {
	if len(list) == 0 {
		return [][]impl.PlanChange{nil}
	}
	var out [][]impl.PlanChange
	for i := range list {
		rest := slices.Delete(slices.Clone(list), i, i+1)
		for _, order := range orders(rest) {
			out = append(out, append(order, list[i]))
		}
	}
	return out
}

// Promise 1: changes in every order, some of them twice, come to one book.
func TestEveryOrderComesToOneBook(t *testing.T) {
	list := []impl.PlanChange{change("k", 3, 2, "4"), change("k", 3, 2, "5"), change("k", 3, 1, "6"), change("a", 3, 2, "4"), change("k", 5, 7, "closed"), change("k", 3, 2, "4")}
	want := bookWith(entry("a", field(3, 2, "4")), entry("k", field(3, 2, "5"), field(5, 7, "closed")))
	for _, order := range orders(list) {
		if got := takeEach(t, bookWith(), order); !same(got, want) {
			t.Fatalf("%+v come to %+v", order, got)
		}
	}
}

func TestAnyOrderComesToOneBook(t *testing.T) {
	r := rand.New(rand.NewSource(1))
	for range 300 {
		changes := randomChanges(r, 40, flightNames(1+r.Intn(impl.PlanMaxFlights)))
		want := modelOf(changes...).book(sampleBase())
		for range 4 {
			r.Shuffle(len(changes), func(i, k int) { changes[i], changes[k] = changes[k], changes[i] })
			again := append(slices.Clone(changes), changes[:r.Intn(len(changes)+1)]...)
			if got := takeEach(t, bookWith(), again); !same(got, want) || !impl.PlanBookOk(got) {
				t.Fatalf("%+v come to %+v", again, got)
			}
		}
	}
}

// Promises 2 and 4: what is ok is taken in, and all that is said of other things is left.
func TestTakeLeavesOtherThings(t *testing.T) {
	r := rand.New(rand.NewSource(2))
	names := flightNames(impl.PlanMaxFlights)
	for range 2000 {
		said := modelOf(randomChanges(r, 50, names)...)
		book := said.book(sampleBase())
		c := randomChange(r, names)
		got, code := impl.PlanTake(book, c)
		after := modelOf(changesIn(got)...)
		at := thing{c.Flight, c.What}
		if code != 0 || !impl.PlanBookOk(got) || !same(got.Base, book.Base) {
			t.Fatalf("PlanTake(%+v, %+v) = %+v, %d", book, c, got, code)
		}
		for other, f := range said {
			if other != at && after[other] != f {
				t.Fatalf("%+v changed %+v", c, other)
			}
		}
		said.take(c)
		if after[at] != said[at] || len(after) != len(said) {
			t.Fatalf("%+v came to %+v", c, after[at])
		}
	}
}

func checkMerge(t *testing.T, what string, a, b, want impl.PlanBook, wantCode int) {
	t.Helper()
	got, code := impl.PlanMerge(a, b)
	if code != wantCode || !same(got, want) {
		t.Errorf("%s: PlanMerge = %+v, %d; not %+v, %d", what, got, code, want, wantCode)
	}
}

func TestMergeCodes(t *testing.T) {
	ok, full, nothing := sampleBook(), manyEntries(impl.PlanMaxFlights), impl.PlanBook{}
	for name, broken := range brokenBooks() {
		checkMerge(t, name, broken, ok, nothing, 1)
		checkMerge(t, name, ok, broken, nothing, 1)
		checkMerge(t, name, broken, broken, nothing, 1)
	}
	for name, changeIt := range map[string]func(b *impl.PlanBase){
		"a kind more":        func(b *impl.PlanBase) { b.Kinds = append(b.Kinds, impl.PlanKind{Name: "kite", Quick: 1, Slow: 1}) },
		"a kind less":        func(b *impl.PlanBase) { b.Kinds = b.Kinds[1:] },
		"a kind's name":      func(b *impl.PlanBase) { b.Kinds[0].Name = "glide" },
		"a kind's Quick":     func(b *impl.PlanBase) { b.Kinds[1].Quick = 2 },
		"a kind's Slow":      func(b *impl.PlanBase) { b.Kinds[1].Slow = 3 },
		"a point more":       func(b *impl.PlanBase) { b.Points = append(b.Points, impl.PlanPoint{Name: "z", X: 9}) },
		"a point less":       func(b *impl.PlanBase) { b.Points = append(b.Points[:1], b.Points[2:]...) },
		"the last one less":  func(b *impl.PlanBase) { b.Points = b.Points[:3] },
		"a point's name":     func(b *impl.PlanBase) { b.Points[1].Name = "a-2" },
		"a point's X":        func(b *impl.PlanBase) { b.Points[3].X = 4 },
		"a point's Y":        func(b *impl.PlanBase) { b.Points[0].Y = 1 },
		"nothing in one":     func(b *impl.PlanBase) { *b = impl.PlanBase{} },
		"no kinds in one":    func(b *impl.PlanBase) { b.Kinds = nil },
		"no points in one":   func(b *impl.PlanBase) { b.Points = nil },
		"all kinds replaced": func(b *impl.PlanBase) { b.Kinds = manyKinds(2) },
	} {
		other := bookWith()
		changeIt(&other.Base)
		if !impl.PlanBookOk(other) {
			t.Fatal(name)
		}
		for _, book := range []impl.PlanBook{ok, full, bookWith()} {
			checkMerge(t, name, book, other, nothing, 2)
			checkMerge(t, name, other, book, nothing, 2)
		}
	}
	for _, more := range []string{"a", "f055", "z"} {
		checkMerge(t, "one flight more", full, bookWith(entry(more, field(3, 1, "1"))), nothing, 3)
		checkMerge(t, "one flight more", bookWith(entry(more, field(3, 1, "1"))), full, nothing, 3)
	}
	checkMerge(t, "many more", full, ok, nothing, 3)
	other := manyEntries(impl.PlanMaxFlights)
	other.Base.Kinds[0].Slow, other.Entries[0].Name = 49, "a"
	checkMerge(t, "another base ahead of no room", full, other, nothing, 2)
}

func TestMergeMeetsTheLimit(t *testing.T) {
	full := manyEntries(impl.PlanMaxFlights)
	checkMerge(t, "with itself", full, manyEntries(impl.PlanMaxFlights), full, 0)
	for cut := range impl.PlanMaxFlights + 1 {
		head, tail := manyEntries(cut), manyEntries(impl.PlanMaxFlights)
		tail.Entries = tail.Entries[cut:]
		checkMerge(t, "head and tail", head, tail, full, 0)
		checkMerge(t, "tail and head", tail, head, full, 0)
		checkMerge(t, "head and all", head, full, full, 0)
	}
}

func TestMergeOfNothing(t *testing.T) {
	checkMerge(t, "nothing", impl.PlanBook{}, impl.PlanBook{}, impl.PlanBook{}, 0)
	checkMerge(t, "nil and empty lists", impl.PlanBook{}, impl.PlanBook{Base: impl.PlanBase{Kinds: []impl.PlanKind{}, Points: []impl.PlanPoint{}}, Entries: []impl.PlanEntry{}}, impl.PlanBook{}, 0)
	checkMerge(t, "something and nothing", sampleBook(), bookWith(), sampleBook(), 0)
	checkMerge(t, "nothing and something", bookWith(), sampleBook(), sampleBook(), 0)
}

func randomBook(r *rand.Rand, flights []string) impl.PlanBook {
	return modelOf(randomChanges(r, 30, flights)...).book(sampleBase())
}

func merge(t *testing.T, a, b impl.PlanBook) impl.PlanBook {
	t.Helper()
	got, code := impl.PlanMerge(a, b)
	if code != 0 || !impl.PlanBookOk(got) {
		t.Fatalf("PlanMerge(%+v, %+v) = %+v, %d", a, b, got, code)
	}
	return got
}

// Promise 3, with the books of a few flights that all have room.
func TestMergeHangsOnNoOrder(t *testing.T) {
	r := rand.New(rand.NewSource(3))
	names := flightNames(impl.PlanMaxFlights)
	for range 500 {
		a, b, c := randomBook(r, names), randomBook(r, names), randomBook(r, names)
		ab := merge(t, a, b)
		if want := modelOf(append(changesIn(a), changesIn(b)...)...).book(sampleBase()); !same(ab, want) {
			t.Fatalf("%+v and %+v come to %+v", a, b, ab)
		}
		if !same(ab, merge(t, b, a)) {
			t.Fatalf("%+v and %+v: the other way round", a, b)
		}
		if !same(merge(t, ab, c), merge(t, a, merge(t, b, c))) {
			t.Fatalf("%+v, %+v and %+v: which two are first", a, b, c)
		}
		if !same(merge(t, ab, a), ab) || !same(merge(t, b, ab), ab) || !same(merge(t, a, a), a) {
			t.Fatalf("%+v and %+v: once more", a, b)
		}
		taken, codes := impl.PlanTakeAll(a, impl.PlanNews(a, b))
		if !same(taken, ab) || slices.ContainsFunc(codes, func(code int) bool { return code != 0 }) {
			t.Fatalf("%+v and the news of %+v: %+v", a, b, taken)
		}
	}
}

func TestBooksAreNewMemory(t *testing.T) {
	for _, c := range []impl.PlanChange{change("new", 3, 9, "1"), change("kl1", 3, 9, "1"), change("kl1", 3, 1, "1"), change("kl1", 1, 1, "jet"), change("kl1", 3, 0, "1")} {
		book := sampleBook()
		before := whole(book)
		got, code := impl.PlanTake(book, c)
		checkFresh(t, fmt.Sprintf("PlanTake with code %d", code), []any{got}, book, c)
		if whole(book) != before {
			t.Errorf("PlanTake(_, %+v) wrote into its book", c)
		}
	}
	full := manyEntries(impl.PlanMaxFlights)
	before := whole(full)
	got, code := impl.PlanTake(full, change("z", 3, 9, "1"))
	checkFresh(t, fmt.Sprintf("PlanTake with code %d", code), []any{got}, full)
	a, b := sampleBook(), bookWith(entry("kl1", field(3, 9, "1")), entry("z", field(5, 1, "open")))
	beforeA, beforeB := whole(a), whole(b)
	merged, _ := impl.PlanMerge(a, b)
	checkFresh(t, "PlanMerge", []any{merged}, a, b)
	again, _ := impl.PlanMerge(a, a)
	checkFresh(t, "PlanMerge of one book", []any{again}, a)
	checkFresh(t, "two answers", []any{merged}, again)
	impl.PlanBookOk(a)
	if whole(full) != before || whole(a) != beforeA || whole(b) != beforeB {
		t.Error("a book that was handed in is not as it was")
	}
}
