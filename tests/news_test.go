package tests

import (
	"math/rand"
	"slices"
	"strings"
	"testing"

	"loop.example/lapplan/impl"
)

func checkNews(t *testing.T, what string, a, b impl.PlanBook, want ...impl.PlanChange) {
	t.Helper()
	if got := impl.PlanNews(a, b); !same(got, want) {
		t.Errorf("%s: PlanNews = %+v, not %+v", what, got, want)
	}
}

func TestNewsOrdinary(t *testing.T) {
	none, sample := bookWith(), sampleBook()
	checkNews(t, "all is news to nothing", none, sample, changesIn(sample)...)
	checkNews(t, "nothing has no news", sample, none)
	checkNews(t, "nothing to nothing", none, none)
	checkNews(t, "no news to itself", sample, sampleBook())
	a := bookWith(entry("b", field(1, 1, "jet"), field(3, 5, "3")), entry("d", field(5, 1, "open")))
	checkNews(t, "a flight ahead", a, bookWith(entry("a", field(3, 1, "1"))), change("a", 3, 1, "1"))
	checkNews(t, "a flight between", a, bookWith(entry("c", field(3, 1, "1"))), change("c", 3, 1, "1"))
	checkNews(t, "a flight behind", a, bookWith(entry("e", field(3, 1, "1"))), change("e", 3, 1, "1"))
	checkNews(t, "a thing between", a, bookWith(entry("b", field(2, 1, "5 6"))), change("b", 2, 1, "5 6"))
	checkNews(t, "a thing behind", a, bookWith(entry("b", field(4, 1, "a b"))), change("b", 4, 1, "a b"))
	checkNews(t, "a thing of a later flight", a, bookWith(entry("d", field(1, 1, "jet"))), change("d", 1, 1, "jet"))
	checkNews(t, "a later Number", a, bookWith(entry("b", field(3, 6, "1"))), change("b", 3, 6, "1"))
	checkNews(t, "an earlier Number", a, bookWith(entry("b", field(3, 4, "6"))))
	checkNews(t, "a later Value", a, bookWith(entry("b", field(3, 5, "4"))), change("b", 3, 5, "4"))
	checkNews(t, "an earlier Value", a, bookWith(entry("b", field(3, 5, "2"))))
	checkNews(t, "the same", a, bookWith(entry("b", field(3, 5, "3"))))
	checkNews(t, "some of several", a,
		bookWith(entry("a", field(5, 1, "closed")), entry("b", field(1, 2, "glider"), field(3, 5, "3"), field(5, 9, "closed")), entry("d", field(5, 1, "closed"))),
		change("a", 5, 1, "closed"), change("b", 1, 2, "glider"), change("b", 5, 9, "closed"))
}

func TestNewsOfBooksThatAreNotOk(t *testing.T) {
	for name, broken := range brokenBooks() {
		checkNews(t, name, broken, sampleBook())
		checkNews(t, name, bookWith(), broken)
		checkNews(t, name, broken, broken)
	}
}

// The document asks PlanNews only for two books that are ok, not for one Base.
func TestNewsOfAnotherBase(t *testing.T) {
	checkNews(t, "another base", impl.PlanBook{}, sampleBook(), changesIn(sampleBook())...)
	a := bookWith(entry("b", field(3, 5, "3")))
	a.Base.Kinds[0].Slow = 49
	checkNews(t, "another base, one thing known", a, bookWith(entry("b", field(3, 4, "6")), entry("c", field(1, 1, "jet"))), change("c", 1, 1, "jet"))
}

func TestNewsAreWhatIsNotKnown(t *testing.T) {
	r := rand.New(rand.NewSource(4))
	for range 1000 {
		names := flightNames(1 + r.Intn(impl.PlanMaxFlights))
		a, b := randomBook(r, names), randomBook(r, names)
		known := modelOf(changesIn(a)...)
		var want []impl.PlanChange
		for _, c := range changesIn(b) {
			old, said := known[thing{c.Flight, c.What}]
			if !said || old.Number < c.Number || old.Number == c.Number && old.Value < c.Value {
				want = append(want, c)
			}
		}
		checkNews(t, "random books", a, b, want...)
	}
}

func TestTakeAllOfABookThatIsNotOk(t *testing.T) {
	for name, broken := range brokenBooks() {
		for _, list := range [][]impl.PlanChange{nil, {change("kl1", 3, 9, "1")}, {change("kl1", 3, 9, "1"), {}}} {
			if got, codes := impl.PlanTakeAll(broken, list); !same(got, impl.PlanBook{}) || len(codes) != 0 {
				t.Errorf("%s: %+v, %v", name, got, codes)
			}
		}
	}
}

func TestTakeAllOfNothing(t *testing.T) {
	for _, book := range []impl.PlanBook{{}, bookWith(), sampleBook(), manyEntries(impl.PlanMaxFlights)} {
		for _, list := range [][]impl.PlanChange{nil, {}} {
			if got, codes := impl.PlanTakeAll(book, list); !same(got, book) || len(codes) != 0 {
				t.Errorf("%+v, %v", got, codes)
			}
		}
	}
}

// A code of one change keeps none behind it from being taken in.
func TestTakeAllGoesOnBehindACode(t *testing.T) {
	book := manyEntries(impl.PlanMaxFlights - 1)
	list := []impl.PlanChange{change("f00", 3, 6, "7"), change("x", 3, 1, "1"), change("y", 3, 1, "1"), change("f00", 3, 6, "6"), change("y", 3, 0, "1"), change("x", 3, 1, "1"), change("f00", 3, 6, "5"), {}}
	want := manyEntries(impl.PlanMaxFlights - 1)
	want.Entries = append(want.Entries, entry("x", field(3, 1, "1")))
	want.Entries[0].Fields[0] = field(3, 6, "6")
	got, codes := impl.PlanTakeAll(book, list)
	if !same(got, want) || !slices.Equal(codes, []int{2, 0, 3, 0, 2, 0, 0, 2}) {
		t.Errorf("%+v, %v", got, codes)
	}
}

func TestTakeAllIsTakeByTake(t *testing.T) {
	r := rand.New(rand.NewSource(5))
	for range 300 {
		book := randomBook(r, flightNames(8))
		list := append(randomChanges(r, 40, flightNames(20)), wrongChanges("f01")[r.Intn(20)])
		r.Shuffle(len(list), func(i, k int) { list[i], list[k] = list[k], list[i] })
		want, wantCodes := book, []int{}
		for _, c := range list {
			taken, code := impl.PlanTake(want, c)
			want, wantCodes = taken, append(wantCodes, code)
		}
		if got, codes := impl.PlanTakeAll(book, list); !same(got, want) || !slices.Equal(codes, wantCodes) {
			t.Fatalf("PlanTakeAll(%+v, %+v) = %+v, %v; not %+v, %v", book, list, got, codes, want, wantCodes)
		}
	}
}

func TestNewsAreNewMemory(t *testing.T) {
	a, b := bookWith(entry("kl1", field(3, 9, "1"))), sampleBook()
	list := withSpare(change("noise", 9, 9, "noise"), change("kl1", 3, 8, "2"), change("z", 4, 1, "a b"), change("", 4, 1, "a b"))
	before := whole(a) + whole(b) + whole(list)
	news := impl.PlanNews(a, b)
	checkFresh(t, "PlanNews", []any{news}, a, b)
	taken, codes := impl.PlanTakeAll(b, list)
	checkFresh(t, "PlanTakeAll", []any{taken, codes}, b, list)
	same, _ := impl.PlanTakeAll(b, nil)
	checkFresh(t, "PlanTakeAll of nothing", []any{same}, b)
	if whole(a)+whole(b)+whole(list) != before {
		t.Error("what was handed in is not as it was")
	}
}

func TestTakeAllOfALongList(t *testing.T) {
	list := slices.Repeat([]impl.PlanChange{change("kl1", 3, 8, "2"), change(strings.Repeat("x", 9), 3, 1, "1")}, 2000)
	if _, codes := impl.PlanTakeAll(sampleBook(), list); len(codes) != len(list) || codes[len(list)-1] != 2 || codes[len(list)-2] != 0 {
		t.Error("a long list is not answered change by change")
	}
}
