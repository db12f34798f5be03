package tests

import (
	"math/rand"
	"slices"
	"strconv"
	"strings"
	"testing"

	"loop.example/lapplan/impl"
)

// allSaid is an entry of which the four needed things are said, and of its state nothing.
func allSaid(name string) impl.PlanEntry {
	return entry(name, field(1, 1, "jet"), field(2, 7, "5 6"), field(3, 2, "4"), field(4, 9, "a b c"))
}

func allSaidFlight(name string) impl.PlanFlight {
	return impl.PlanFlight{Name: name, Kind: impl.PlanKind{Name: "jet", Quick: 1, Slow: 2}, From: 5, By: 6, Level: 4, Route: []string{"a", "b", "c"}}
}

func withState(e impl.PlanEntry, number int, state string) impl.PlanEntry {
	return entry(e.Name, append(slices.Clone(e.Fields), field(5, number, state))...)
}

func checkStands(t *testing.T, book impl.PlanBook, name string, want impl.PlanFlight) {
	t.Helper()
	if got, ok := impl.PlanStands(book, name); !ok || !same(got, want) {
		t.Errorf("PlanStands(%+v, %q) = %+v, %v; not %+v", book, name, got, ok, want)
	}
}

func checkStandsNot(t *testing.T, what string, book impl.PlanBook, name string) {
	t.Helper()
	if got, ok := impl.PlanStands(book, name); ok || !same(got, impl.PlanFlight{}) {
		t.Errorf("%s: PlanStands(%+v, %q) = %+v, %v", what, book, name, got, ok)
	}
}

func checkAll(t *testing.T, what string, book impl.PlanBook, want ...impl.PlanFlight) {
	t.Helper()
	if got := impl.PlanAll(book); !same(got, want) {
		t.Errorf("%s: PlanAll(%+v) = %+v, not %+v", what, book, got, want)
	}
}

func TestStandsOrdinary(t *testing.T) {
	for _, e := range []impl.PlanEntry{allSaid("kl1"), withState(allSaid("kl1"), 1, "open"), withState(allSaid("kl1"), 1000000, "open")} {
		checkStands(t, bookWith(e), "kl1", allSaidFlight("kl1"))
		checkAll(t, "one that stands", bookWith(e), allSaidFlight("kl1"))
	}
	for _, number := range []int{1, 1000000} {
		book := bookWith(withState(allSaid("kl1"), number, "closed"))
		checkStandsNot(t, "closed", book, "kl1")
		checkAll(t, "closed", book)
	}
	checkStands(t, sampleBook(), "kl1", allSaidFlight("kl1"))
	checkAll(t, "sample", sampleBook(), allSaidFlight("kl1"))
}

func TestStandsWithEachThingNotSaid(t *testing.T) {
	for _, e := range []impl.PlanEntry{allSaid("kl1"), withState(allSaid("kl1"), 1, "open"), withState(allSaid("kl1"), 1, "closed")} {
		for out := range 4 {
			fields := slices.Delete(slices.Clone(e.Fields), out, out+1)
			book := bookWith(allSaid("a"), entry("kl1", fields...), allSaid("z"))
			checkStandsNot(t, "one thing is not said", book, "kl1")
			checkAll(t, "one thing is not said", book, allSaidFlight("a"), allSaidFlight("z"))
		}
	}
}

// Promise 6: it stands just if all four are said and it is not closed; each choice of what is said.
func TestStandsForEachChoice(t *testing.T) {
	all := allSaid("kl1").Fields
	for choice := 1; choice < 16*3; choice++ {
		var fields []impl.PlanField
		for i, f := range all {
			if choice>>i&1 == 1 {
				fields = append(fields, f)
			}
		}
		state := choice / 16
		if state > 0 {
			fields = append(fields, field(5, 3, []string{"", "open", "closed"}[state]))
		}
		if len(fields) == 0 {
			continue
		}
		book := bookWith(entry("kl1", fields...))
		if choice%16 == 15 && state != 2 {
			checkStands(t, book, "kl1", allSaidFlight("kl1"))
			checkAll(t, "choice", book, allSaidFlight("kl1"))
		} else {
			checkStandsNot(t, "choice", book, "kl1")
			checkAll(t, "choice", book)
		}
	}
}

func TestStandsOfNoSuchName(t *testing.T) {
	book := bookWith(allSaid("kl1"), allSaid("kl3"))
	for _, name := range append(badNames(), "a", "kl", "kl0", "kl2", "kl4", "kl11", "kl1 ", " kl1", "kl1\n", "KL1", "jet", strings.Repeat("k", 100000)) {
		checkStandsNot(t, "no such name", book, name)
		checkStandsNot(t, "nothing", impl.PlanBook{}, name)
		checkStandsNot(t, "base alone", bookWith(), name)
	}
	checkAll(t, "nothing", impl.PlanBook{})
	checkAll(t, "base alone", bookWith())
}

func TestStandsInABookThatIsNotOk(t *testing.T) {
	for name, broken := range brokenBooks() {
		broken.Entries = append(slices.Clone(broken.Entries), allSaid("z"))
		if impl.PlanBookOk(broken) {
			t.Fatal(name)
		}
		for _, flight := range []string{"kl1", "b", "z", "f00", "a", ""} {
			checkStandsNot(t, name, broken, flight)
		}
		checkAll(t, name, broken)
	}
	over := bookWith()
	for _, name := range flightNames(impl.PlanMaxFlights + 1) {
		over.Entries = append(over.Entries, allSaid(name))
	}
	checkStandsNot(t, "one flight too many", over, "f00")
	checkAll(t, "one flight too many", over)
}

func TestStandsAtTheLimits(t *testing.T) {
	book := bookWith()
	var want []impl.PlanFlight
	for _, name := range flightNames(impl.PlanMaxFlights) {
		book.Entries = append(book.Entries, allSaid(name))
		want = append(want, allSaidFlight(name))
	}
	checkAll(t, "most flights", book, want...)
	for i, name := range flightNames(impl.PlanMaxFlights) {
		checkStands(t, book, name, want[i])
	}
	for _, c := range []struct {
		kind, time, level, route string
		want                     impl.PlanFlight
	}{
		{"jet", "0 0", "1", "a b", impl.PlanFlight{Name: "k", Kind: impl.PlanKind{Name: "jet", Quick: 1, Slow: 2}, Level: 1, Route: []string{"a", "b"}}},
		{"glider", "0 10000", "6", "b a", impl.PlanFlight{Name: "k", Kind: impl.PlanKind{Name: "glider", Quick: 3, Slow: 50}, By: 10000, Level: 6, Route: []string{"b", "a"}}},
		{"jet", "10000 10000", "3", "a b a b a b a a-1", impl.PlanFlight{Name: "k", Kind: impl.PlanKind{Name: "jet", Quick: 1, Slow: 2}, From: 10000, By: 10000, Level: 3, Route: []string{"a", "b", "a", "b", "a", "b", "a", "a-1"}}},
	} {
		checkStands(t, bookWith(entry("k", field(1, 1, c.kind), field(2, 1, c.time), field(3, 1, c.level), field(4, 1, c.route))), "k", c.want)
	}
	full := longestBook()
	full.Entries[11].Fields[4].Value = "open"
	got, ok := impl.PlanStands(full, "flight11")
	if !ok || got.Kind != full.Base.Kinds[5] || len(got.Route) != impl.PlanMaxRoute || len(impl.PlanAll(full)) != 1 {
		t.Errorf("%+v, %v", got, ok)
	}
}

// Promise 6: what was said last of the state counts, in whatever order it came.
func TestStateThatWasSaidLast(t *testing.T) {
	for _, c := range []struct {
		changes []impl.PlanChange
		stands  bool
	}{
		{[]impl.PlanChange{change("kl1", 5, 1, "closed"), change("kl1", 5, 2, "open")}, true},
		{[]impl.PlanChange{change("kl1", 5, 2, "closed"), change("kl1", 5, 1, "open")}, false},
		{[]impl.PlanChange{change("kl1", 5, 9, "closed"), change("kl1", 5, 10, "open"), change("kl1", 5, 8, "closed")}, true},
		{[]impl.PlanChange{change("kl1", 5, 9, "open"), change("kl1", 5, 10, "closed"), change("kl1", 5, 10, "closed")}, false},
		{[]impl.PlanChange{change("kl1", 5, 3, "closed"), change("kl1", 5, 3, "open")}, true},
		{[]impl.PlanChange{change("kl2", 5, 3, "closed")}, true},
		{[]impl.PlanChange{change("kl2", 5, 4, "open"), change("kl1", 5, 3, "closed")}, false},
	} {
		for _, order := range orders(c.changes) {
			book := takeEach(t, bookWith(allSaid("kl1")), order)
			if _, ok := impl.PlanStands(book, "kl1"); ok != c.stands {
				t.Errorf("behind %+v: %v", order, ok)
			}
		}
	}
}

// flightOf is a second writing of what stands.
func flightOf(m model, base impl.PlanBase, name string) (impl.PlanFlight, bool) {
	said := func(what int) string { return m[thing{name, what}].Value }
	if said(1) == "" || said(2) == "" || said(3) == "" || said(4) == "" || said(5) == "closed" {
		return impl.PlanFlight{}, false
	}
	flight := impl.PlanFlight{Name: name, Route: strings.Fields(said(4))}
	for _, k := range base.Kinds {
		if k.Name == said(1) {
			flight.Kind = k
		}
	}
	flight.From, _ = strconv.Atoi(strings.Fields(said(2))[0])
	flight.By, _ = strconv.Atoi(strings.Fields(said(2))[1])
	flight.Level, _ = strconv.Atoi(said(3))
	return flight, true
}

func TestStandsAgainstASecondWriting(t *testing.T) {
	r := rand.New(rand.NewSource(14))
	standing, not := 0, 0
	for range 1500 {
		names := flightNames(1 + r.Intn(impl.PlanMaxFlights))
		said := modelOf(randomChanges(r, 60, names)...)
		book := said.book(sampleBase())
		var all []impl.PlanFlight
		for _, name := range names {
			want, ok := flightOf(said, book.Base, name)
			if !ok {
				not++
				checkStandsNot(t, "random book", book, name)
				continue
			}
			standing++
			checkStands(t, book, name, want)
			all = append(all, want)
		}
		checkAll(t, "random book", book, all...)
	}
	if standing < 500 || not < 500 {
		t.Errorf("%d that stand and %d that do not are too few", standing, not)
	}
}

func TestFlightsAreNewMemory(t *testing.T) {
	book := bookWith(allSaid("kl1"), withState(allSaid("kl2"), 1, "closed"), allSaid("kl3"))
	before := whole(book)
	name := strings.Clone("kl1")
	flight, _ := impl.PlanStands(book, name)
	again, _ := impl.PlanStands(book, name)
	checkFresh(t, "PlanStands", []any{flight}, book, name, again)
	all := impl.PlanAll(book)
	checkFresh(t, "PlanAll", []any{all}, book, flight)
	impl.PlanStands(book, "kl2")
	if whole(book) != before || name != "kl1" {
		t.Error("what was handed in is not as it was")
	}
	flight.Route[0], all[0].Route[1], all[0].Name = "x", "x", "x"
	_ = append(all[0].Route[:1], "y", "y", "y")
	checkStands(t, book, "kl1", allSaidFlight("kl1"))
	if !same(again, allSaidFlight("kl1")) || !same(all[1], allSaidFlight("kl3")) {
		t.Error("a write into an answer changed another one")
	}
}
