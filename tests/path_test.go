package tests

import (
	"fmt"
	"math"
	"math/rand"
	"slices"
	"strconv"
	"strings"
	"testing"

	"loop.example/lapplan/impl"
)

// wayBook has one flight, k, of which all is said.
func wayBook(base impl.PlanBase, kind, time, level, route string) impl.PlanBook {
	return impl.PlanBook{Base: base, Entries: []impl.PlanEntry{entry("k", field(1, 1, kind), field(2, 1, time), field(3, 1, level), field(4, 1, route))}}
}

func closed(book impl.PlanBook) impl.PlanBook {
	book.Entries = slices.Clone(book.Entries)
	book.Entries[0] = withState(book.Entries[0], 1, "closed")
	return book
}

// notOk is a book that stands as before but for a base that is not ok.
func notOk(book impl.PlanBook) impl.PlanBook {
	book.Base.Kinds = append(slices.Clone(book.Base.Kinds), impl.PlanKind{Name: "z"})
	return book
}

// pathFrom reads the form in which a session tells a path.
func pathFrom(t *testing.T, text string) impl.PlanPath {
	t.Helper()
	var path impl.PlanPath
	words := strings.Fields(text)
	for _, word := range words[:len(words)-1] {
		var s impl.PlanStep
		if _, err := fmt.Sscanf(word, "%d,%d,%d-%d@%d-%d", &s.X, &s.Y, &s.Low, &s.High, &s.From, &s.By); err != nil {
			t.Fatal(err)
		}
		path.Steps = append(path.Steps, s)
	}
	if _, err := fmt.Sscanf(words[len(words)-1], "end@%d-%d", &path.From, &path.By); err != nil {
		t.Fatal(err)
	}
	return path
}

func checkPath(t *testing.T, what string, book impl.PlanBook, name string, want impl.PlanPath) {
	t.Helper()
	if got, code := impl.PlanPathOf(book, name); code != 0 || !same(got, want) {
		t.Errorf("%s: PlanPathOf(%+v, %q) = %+v, %d; not %+v", what, book, name, got, code, want)
	}
}

// checkPathCode: with a code there is no path, and PlanOver is false at each point.
func checkPathCode(t *testing.T, what string, book impl.PlanBook, name string, want int) {
	t.Helper()
	if got, code := impl.PlanPathOf(book, name); code != want || !same(got, impl.PlanPath{}) {
		t.Errorf("%s: PlanPathOf(%+v, %.200q) = %+v, %d; not %d", what, book, name, got, code, want)
	}
	for _, p := range book.Base.Points {
		checkNotOver(t, what, book, name, p.Name)
	}
}

func checkOver(t *testing.T, what string, book impl.PlanBook, name, point string, from, by int) {
	t.Helper()
	if gotFrom, gotBy, ok := impl.PlanOver(book, name, point); !ok || gotFrom != from || gotBy != by {
		t.Errorf("%s: PlanOver(%+v, %q, %q) = %d, %d, %v; not %d, %d", what, book, name, point, gotFrom, gotBy, ok, from, by)
	}
}

func checkNotOver(t *testing.T, what string, book impl.PlanBook, name, point string) {
	t.Helper()
	if from, by, ok := impl.PlanOver(book, name, point); ok || from != 0 || by != 0 {
		t.Errorf("%s: PlanOver(%+v, %.200q, %.200q) = %d, %d, %v", what, book, name, point, from, by, ok)
	}
}

func TestPathOrdinary(t *testing.T) {
	for _, c := range []struct{ kind, time, level, route, path string }{
		{"jet", "100 105", "3", "a b c", "0,0,0-0@100-105 1,0,0-1@101-107 2,1,1-2@102-109 3,1,2-3@103-111 3,2,2-3@104-113 3,3,1-2@105-115 3,4,0-1@106-117 end@107-119"},
		{"jet", "100 105", "1", "a b c", "0,0,0-0@100-105 1,0,0-1@101-107 2,1,1-1@102-109 3,1,1-1@103-111 3,2,1-1@104-113 3,3,1-1@105-115 3,4,0-1@106-117 end@107-119"},
		{"jet", "100 105", "2", "c b a", "3,4,0-0@100-105 3,3,0-1@101-107 3,2,1-2@102-109 3,1,2-2@103-111 2,1,2-2@104-113 1,0,1-2@105-115 0,0,0-1@106-117 end@107-119"},
		{"jet", "0 0", "6", "a b", "0,0,0-0@0-0 1,0,0-1@1-2 2,1,1-1@2-4 3,1,0-1@3-6 end@4-8"},
		{"glider", "7 7", "6", "b c", "3,1,0-0@7-7 3,2,0-1@10-57 3,3,1-1@13-107 3,4,0-1@16-157 end@19-207"},
		{"glider", "5 500", "4", "c b c", "3,4,0-0@5-500 3,3,0-1@8-550 3,2,1-2@11-600 3,1,2-3@14-650 3,2,2-3@17-700 3,3,1-2@20-750 3,4,0-1@23-800 end@26-850"},
	} {
		checkPath(t, "ordinary", wayBook(sampleBase(), c.kind, c.time, c.level, c.route), "k", pathFrom(t, c.path))
	}
}

func TestPathOfOneFlightAmongOthers(t *testing.T) {
	book := sampleBook()
	book.Entries = append(book.Entries[:2:2], allSaid("kl2"), book.Entries[2])
	book.Entries[2].Fields[0].Value = "glider"
	book.Entries[2].Fields[3].Value = "c b"
	checkPath(t, "the first one that stands", book, "kl1", pathFrom(t, "0,0,0-0@5-6 1,0,0-1@6-8 2,1,1-2@7-10 3,1,2-3@8-12 3,2,2-3@9-14 3,3,1-2@10-16 3,4,0-1@11-18 end@12-20"))
	checkPath(t, "the second one that stands", book, "kl2", pathFrom(t, "3,4,0-0@5-6 3,3,0-1@8-56 3,2,1-1@11-106 3,1,0-1@14-156 end@17-206"))
	for _, name := range []string{"b", "x-9", "a", "kl", "kl3", "z", ""} {
		checkPathCode(t, "does not stand", book, name, 2)
	}
}

// The first step has its own level alone, the last one comes to the ground; with so few steps that the level is not reached, and with more.
func TestLevelsOfThePathsEnds(t *testing.T) {
	for reach := 1; reach < impl.PlanMaxSide; reach++ {
		base := impl.PlanBase{Kinds: manyKinds(1), Points: []impl.PlanPoint{point("a", 0, 0), point("b", reach, 0)}}
		for level := 1; level <= impl.PlanMaxLevel; level++ {
			path, code := impl.PlanPathOf(wayBook(base, "k000", "0 0", strconv.Itoa(level), "a b"), "k")
			if code != 0 || len(path.Steps) != reach+1 {
				t.Fatalf("%d cells: %+v, %d", reach+1, path, code)
			}
			first, second, last := path.Steps[0], path.Steps[1], path.Steps[reach]
			wantHigh := min(1, reach-1)
			if first.Low != 0 || first.High != 0 || second.Low != 0 || second.High != wantHigh || last.Low != 0 || last.High != wantHigh {
				t.Errorf("%d cells at level %d: %+v", reach+1, level, path.Steps)
			}
			top := 0
			for _, s := range path.Steps {
				top = max(top, s.High)
			}
			if top != min(level, reach/2) {
				t.Errorf("%d cells at level %d come to level %d", reach+1, level, top)
			}
		}
	}
}

func TestPathAtTheLastTick(t *testing.T) {
	for _, c := range []struct {
		kind, time, route string
		code              int
	}{
		{"jet", "0 9992", "u4 u7", 0}, {"jet", "0 9993", "u4 u7", 4},
		{"jet", "9992 9992", "u7 u4", 0}, {"jet", "9993 9993", "u7 u4", 4},
		{"slow", "0 9900", "u4 u5", 0}, {"slow", "0 9901", "u4 u5", 4}, {"slow", "9901 9901", "u5 u4", 4},
		{"slow", "0 8000", "sw se ne u6", 0}, {"slow", "0 8001", "sw se ne u6", 4},
		{"jet", "9920 9920", "sw se ne u6", 0}, {"jet", "9920 9921", "sw se ne u6", 4},
		{"jet", "0 9999", "u4 u5", 4}, {"jet", "0 10000", "u4 u5", 4}, {"jet", "10000 10000", "u4 u5", 4}, {"slow", "10000 10000", "sw se ne u6", 4},
	} {
		book := wayBook(wayBase(), c.kind, c.time, "3", c.route)
		if c.code != 0 {
			checkPathCode(t, c.kind+" "+c.time+" "+c.route, book, "k", c.code)
			continue
		}
		if path, code := impl.PlanPathOf(book, "k"); code != 0 || path.By != impl.PlanMaxTick {
			t.Errorf("%+v: %+v, %d", c, path, code)
		}
	}
	// The last step is entered in time, and left too late.
	checkPathCode(t, "left too late", wayBook(wayBase(), "slow", "0 9950", "1", "u4 u5"), "k", 4)
}

func TestPathAtTheMostSteps(t *testing.T) {
	for _, route := range []string{"sw se ne u6", "u6 ne se sw", "sw se ne u7 u6"} {
		if path, code := impl.PlanPathOf(wayBook(wayBase(), "jet", "0 0", "6", route), "k"); code != 0 || len(path.Steps) != impl.PlanMaxSteps || path.From != 40 || path.By != 80 {
			t.Errorf("%s: %+v, %d", route, path, code)
		}
	}
	for _, route := range []string{"sw se ne u5", "u5 ne se sw", "sw se ne u6 u5", "sw ne sw ne sw ne sw ne"} {
		checkPathCode(t, route, wayBook(wayBase(), "jet", "0 0", "6", route), "k", 3)
	}
}

func TestPathCodes(t *testing.T) {
	good := wayBook(wayBase(), "jet", "0 0", "6", "u4 u5")
	far := wayBook(wayBase(), "jet", "0 0", "6", "sw se ne u5")
	late := wayBook(wayBase(), "jet", "0 10000", "6", "u4 u5")
	farAndLate := wayBook(wayBase(), "jet", "0 10000", "6", "sw se ne u5")
	for _, c := range []struct {
		what string
		book impl.PlanBook
		name string
		code int
	}{
		{"1", notOk(good), "k", 1}, {"2, no such name", good, "z", 2}, {"2, closed", closed(good), "k", 2}, {"3", far, "k", 3}, {"4", late, "k", 4},
		{"1 and 2, no such name", notOk(good), "z", 1}, {"1 and 2, closed", notOk(closed(good)), "k", 1}, {"1 and 2, no entries", notOk(impl.PlanBook{}), "k", 1},
		{"1 and 3", notOk(far), "k", 1}, {"1 and 4", notOk(late), "k", 1},
		{"2 and 3", closed(far), "k", 2}, {"2 and 4", closed(late), "k", 2},
		{"3 and 4", farAndLate, "k", 3},
		{"1, 3 and 4", notOk(farAndLate), "k", 1}, {"2, 3 and 4", closed(farAndLate), "k", 2}, {"all of them", notOk(closed(farAndLate)), "k", 1},
		{"nothing", impl.PlanBook{}, "", 2}, {"nothing, with a name", impl.PlanBook{}, "k", 2},
	} {
		checkPathCode(t, c.what, c.book, c.name, c.code)
	}
}

func TestPathOfNoSuchName(t *testing.T) {
	book := bookWith(allSaid("kl1"), allSaid("kl3"))
	for _, name := range append(badNames(), "kl2", "kl11", "kl1 ", " kl1", "kl1\n", "jet", "a", strings.Repeat("k", 1000000)) {
		checkPathCode(t, "no such name", book, name, 2)
	}
}

func TestPathInABookThatIsNotOk(t *testing.T) {
	for what, broken := range brokenBooks() {
		broken.Entries = append(slices.Clone(broken.Entries), allSaid("z"))
		for _, name := range []string{"kl1", "z", "b", "f00", ""} {
			checkPathCode(t, what, broken, name, 1)
		}
	}
}

// Numbers below 0 and very great ones make a book that is not ok, whether the flight needs them or not.
func TestPathWithNumbersFarAway(t *testing.T) {
	for _, far := range []int{math.MinInt, math.MinInt + 1, -1000000, -1, 1000000, math.MaxInt - 1, math.MaxInt} {
		for what, spoil := range map[string]func(b *impl.PlanBook){
			"Quick":             func(b *impl.PlanBook) { b.Base.Kinds[1].Quick = far },
			"Slow":              func(b *impl.PlanBook) { b.Base.Kinds[1].Slow = far },
			"another's Slow":    func(b *impl.PlanBook) { b.Base.Kinds[0].Slow = far },
			"X":                 func(b *impl.PlanBook) { b.Base.Points[0].X = far },
			"Y":                 func(b *impl.PlanBook) { b.Base.Points[2].Y = far },
			"another point's X": func(b *impl.PlanBook) { b.Base.Points[1].X = far },
			"Number": func(b *impl.PlanBook) {
				b.Entries[0].Fields[1].Number = far
				if far == impl.PlanMaxNumber {
					b.Entries[0].Fields[1].Number++
				}
			},
			"time":  func(b *impl.PlanBook) { b.Entries[0].Fields[1].Value = fmt.Sprint("0 ", far) },
			"level": func(b *impl.PlanBook) { b.Entries[0].Fields[2].Value = strconv.Itoa(far) },
		} {
			book := wayBook(sampleBase(), "jet", "5 6", "4", "a b")
			spoil(&book)
			checkPathCode(t, what, book, "k", 1)
		}
	}
}

// pathWritten is a second writing of a path, for a flight that stands.
func pathWritten(b impl.PlanBase, f impl.PlanFlight) (impl.PlanPath, int) {
	cells := cellsBetween(b, f.Route)
	if len(cells) > 40 {
		return impl.PlanPath{}, 3
	}
	n := len(cells)
	if f.By+n*f.Kind.Slow > 10000 {
		return impl.PlanPath{}, 4
	}
	path := impl.PlanPath{From: f.From + n*f.Kind.Quick, By: f.By + n*f.Kind.Slow}
	levels := levelsOf(n, f.Level)
	for k, c := range cells {
		two := []int{levels[k], levels[k]}
		if k > 0 {
			two[0] = levels[k-1]
		}
		slices.Sort(two)
		path.Steps = append(path.Steps, impl.PlanStep{X: c.X, Y: c.Y, Low: two[0], High: two[1], From: f.From + k*f.Kind.Quick, By: f.By + k*f.Kind.Slow})
	}
	return path, 0
}

// overWritten is a second writing of PlanOver, for a path that there is.
func overWritten(b impl.PlanBase, f impl.PlanFlight, p impl.PlanPoint) (int, int, bool) {
	k := slices.Index(cellsBetween(b, f.Route), impl.PlanCell{X: p.X, Y: p.Y})
	if k < 0 {
		return 0, 0, false
	}
	return f.From + k*f.Kind.Quick, f.By + (k+1)*f.Kind.Slow - 1, true
}

// randomWayBook has flights on a random base, of some of which not all is said.
func randomWayBook(r *rand.Rand) impl.PlanBook {
	base := randomWayBase(r)
	var changes []impl.PlanChange
	for _, name := range flightNames(1 + r.Intn(4)) {
		from := r.Intn(200)
		if r.Intn(4) == 0 {
			from = impl.PlanMaxTick - r.Intn(800)
		}
		by := min(from+r.Intn(100), impl.PlanMaxTick)
		all := []impl.PlanChange{
			change(name, 1, 1, base.Kinds[r.Intn(len(base.Kinds))].Name),
			change(name, 2, 1, fmt.Sprint(from, " ", by)),
			change(name, 3, 1, strconv.Itoa(1+r.Intn(impl.PlanMaxLevel))),
			change(name, 4, 1, strings.Join(randomRoute(r, base), " ")),
		}
		if r.Intn(8) == 0 {
			all = slices.Delete(all, 0, 1+r.Intn(3))
		}
		if r.Intn(4) == 0 {
			all = append(all, change(name, 5, 1, []string{"open", "closed"}[r.Intn(2)]))
		}
		changes = append(changes, all...)
	}
	return modelOf(changes...).book(base)
}

// Promise 6: each that stands has a path, or a code 3 or 4; what does not stand has code 2.
func TestPathsAgainstASecondWriting(t *testing.T) {
	r := rand.New(rand.NewSource(16))
	counts := map[int]int{}
	over, notOver := 0, 0
	for range 3000 {
		book := randomWayBook(r)
		said := modelOf(changesIn(book)...)
		for _, e := range book.Entries {
			flight, stands := flightOf(said, book.Base, e.Name)
			if !stands {
				counts[2]++
				checkPathCode(t, "does not stand", book, e.Name, 2)
				continue
			}
			want, code := pathWritten(book.Base, flight)
			counts[code]++
			if code != 0 {
				checkPathCode(t, "no path", book, e.Name, code)
				continue
			}
			checkPath(t, "random", book, e.Name, want)
			for _, p := range book.Base.Points {
				from, by, there := overWritten(book.Base, flight, p)
				if there {
					over++
					checkOver(t, "random", book, e.Name, p.Name, from, by)
				} else {
					notOver++
					checkNotOver(t, "random", book, e.Name, p.Name)
				}
			}
		}
	}
	if counts[0] < 1000 || counts[2] < 200 || counts[3] < 100 || counts[4] < 200 || over < 1000 || notOver < 1000 {
		t.Errorf("too few of a code: %v, %d over and %d not over", counts, over, notOver)
	}
}

// checkWindows: promise 7, as far as a path says it by itself.
func checkWindows(t *testing.T, path impl.PlanPath) {
	t.Helper()
	first, last := path.Steps[0], path.Steps[len(path.Steps)-1]
	if first.Low != 0 || first.High != 0 || last.Low != 0 {
		t.Errorf("the ground is not at both ends of %+v", path)
	}
	for k := 1; k < len(path.Steps); k++ {
		a, b := path.Steps[k-1], path.Steps[k]
		if distance(point("", a.X, a.Y), point("", b.X, b.Y)) != 1 {
			t.Errorf("%+v is not next to %+v", b, a)
		}
		if max(a.Low, b.Low) > min(a.High, b.High) {
			t.Errorf("%+v and %+v have no level together", a, b)
		}
	}
}

// entering is the ticks at which each step is entered, and the last one left, by one that leaves at a tick and stays as it is told.
func entering(steps, leave int, stay func() int) []int {
	ticks := []int{leave}
	for range steps {
		ticks = append(ticks, ticks[len(ticks)-1]+stay())
	}
	return ticks
}

// windowsOf has the path's own window behind those of its steps.
func windowsOf(path impl.PlanPath) (from, by []int) {
	for _, s := range path.Steps {
		from, by = append(from, s.From), append(by, s.By)
	}
	return append(from, path.From), append(by, path.By)
}

// Promise 7: whoever leaves in time and flies as the kind does is within each window; the first and quickest at each From, the last and slowest at each By.
func TestWindows(t *testing.T) {
	r := rand.New(rand.NewSource(17))
	flown := 0
	for range 1500 {
		book := randomWayBook(r)
		for _, f := range impl.PlanAll(book) {
			path, code := impl.PlanPathOf(book, f.Name)
			if code != 0 {
				continue
			}
			flown++
			checkWindows(t, path)
			from, by := windowsOf(path)
			n := len(path.Steps)
			if quickest := entering(n, f.From, func() int { return f.Kind.Quick }); !slices.Equal(quickest, from) {
				t.Fatalf("%+v: the first and quickest enters at %v, not at %v", f, quickest, from)
			}
			if slowest := entering(n, f.By, func() int { return f.Kind.Slow }); !slices.Equal(slowest, by) {
				t.Fatalf("%+v: the last and slowest enters at %v, not at %v", f, slowest, by)
			}
			for range 5 {
				leave := f.From + r.Intn(f.By-f.From+1)
				for k, tick := range entering(n, leave, func() int { return f.Kind.Quick + r.Intn(f.Kind.Slow-f.Kind.Quick+1) }) {
					if tick < from[k] || tick > by[k] {
						t.Fatalf("%+v: step %d is entered at %d, not in %d to %d", f, k, tick, from[k], by[k])
					}
				}
			}
		}
	}
	if flown < 1000 {
		t.Errorf("%d paths are too few", flown)
	}
}

func TestOverOrdinary(t *testing.T) {
	base := sampleBase()
	base.Points = append(base.Points, point("m", 3, 3), point("n", 1, 1), point("o", 2, 1))
	book := wayBook(base, "jet", "100 105", "3", "a b c")
	checkOver(t, "the first step", book, "k", "a", 100, 106)
	checkOver(t, "a step in between", book, "k", "b", 103, 112)
	checkOver(t, "the last step", book, "k", "c", 106, 118)
	checkOver(t, "passed along an axis, not named", book, "k", "m", 105, 116)
	checkOver(t, "passed at a slant, not named", book, "k", "o", 102, 110)
	checkNotOver(t, "beside the way", book, "k", "n")
	checkNotOver(t, "far away", book, "k", "a-1")
	back := wayBook(base, "jet", "100 105", "3", "c b a")
	checkOver(t, "turned round, the first step", back, "k", "c", 100, 106)
	checkOver(t, "turned round, the last step", back, "k", "a", 106, 118)
	slow := wayBook(base, "glider", "0 0", "1", "b c")
	checkOver(t, "slow, the first step", slow, "k", "b", 0, 49)
	checkOver(t, "slow, the last step", slow, "k", "c", 9, 199)
	one := impl.PlanBase{Kinds: manyKinds(1), Points: manyPoints(2)}
	checkOver(t, "one tick in each cell", wayBook(one, "k000", "0 0", "1", "p000 p001"), "k", "p000", 0, 0)
	checkOver(t, "one tick in each cell", wayBook(one, "k000", "0 0", "1", "p000 p001"), "k", "p001", 1, 1)
	checkOver(t, "the last tick but one", wayBook(wayBase(), "jet", "9992 9992", "1", "u4 u7"), "k", "u7", 9995, 9999)
}

// Of several steps in a point's cell the first one counts, named there or not.
func TestOverAPointThatIsComeBackTo(t *testing.T) {
	base := impl.PlanBase{Kinds: manyKinds(1), Points: []impl.PlanPoint{point("a", 0, 0), point("b", 4, 0), point("m", 2, 0)}}
	base.Kinds[0].Slow = 3
	for _, c := range []struct {
		route, point string
		place        int
	}{
		{"a b a", "a", 0}, {"a b a", "b", 4}, {"a b a", "m", 2},
		{"a b m", "m", 2}, {"a b m", "b", 4}, {"m b a", "m", 0}, {"m a b", "b", 6}, {"a m a m b", "m", 2}, {"a m a m b", "b", 8},
	} {
		book := wayBook(base, "k000", "10 20", "2", c.route)
		checkOver(t, c.route, book, "k", c.point, 10+c.place, 20+(c.place+1)*3-1)
	}
}

func TestOverOfNoSuchPoint(t *testing.T) {
	book := wayBook(sampleBase(), "jet", "100 105", "3", "a b c")
	for _, name := range append(badNames(), "d", "a-", "a-2", "aa", "0", "zzz", "k", "jet", "glider", "a b", "a ", " a", strings.Repeat("a", 1000000)) {
		checkNotOver(t, "no such point", book, "k", name)
		checkNotOver(t, "no such flight and no such point", book, "z", name)
	}
	checkNotOver(t, "nothing", impl.PlanBook{}, "", "")
	checkNotOver(t, "nothing, with names", impl.PlanBook{}, "k", "a")
}

// Promise 8: over each point of its route a flight that has a path may be at some time: whoever flies is there within the ticks told, and the first and the last such tick are met.
func TestOverEachPointOfItsRoute(t *testing.T) {
	r := rand.New(rand.NewSource(18))
	asked := 0
	for range 1500 {
		book := randomWayBook(r)
		for _, f := range impl.PlanAll(book) {
			path, code := impl.PlanPathOf(book, f.Name)
			if code != 0 {
				continue
			}
			n := len(path.Steps)
			first := entering(n, f.From, func() int { return f.Kind.Quick })
			last := entering(n, f.By, func() int { return f.Kind.Slow })
			for _, name := range f.Route {
				asked++
				p := pointOf(book.Base, name)
				k := slices.IndexFunc(path.Steps, func(s impl.PlanStep) bool { return s.X == p.X && s.Y == p.Y })
				from, by, ok := impl.PlanOver(book, f.Name, name)
				if !ok || from > by || k < 0 || from != first[k] || by != last[k+1]-1 {
					t.Fatalf("%+v over %s: %d, %d, %v", f, name, from, by, ok)
				}
			}
		}
	}
	if asked < 2000 {
		t.Errorf("%d points are too few", asked)
	}
}

func TestPathsAreNewMemory(t *testing.T) {
	book := bookWith(allSaid("kl1"), withState(allSaid("kl2"), 1, "closed"), allSaid("kl3"))
	before := whole(book)
	name, at := strings.Clone("kl1"), strings.Clone("b")
	path, _ := impl.PlanPathOf(book, name)
	again, _ := impl.PlanPathOf(book, name)
	other, _ := impl.PlanPathOf(book, "kl3")
	checkFresh(t, "PlanPathOf", []any{path}, book, name, again, other)
	impl.PlanPathOf(book, "kl2")
	impl.PlanOver(book, name, at)
	impl.PlanOver(book, "kl2", at)
	impl.PlanOver(book, name, "a-1")
	broken := notOk(book)
	beforeBroken := whole(broken)
	impl.PlanPathOf(broken, name)
	impl.PlanOver(broken, name, at)
	for i := range path.Steps {
		path.Steps[i] = impl.PlanStep{X: 99, Y: 99, Low: 99, High: 99, From: 99, By: 99}
	}
	_ = append(path.Steps[:1], impl.PlanStep{X: 98})
	if whole(book) != before || whole(broken) != beforeBroken || name != "kl1" || at != "b" {
		t.Error("what was handed in is not as it was")
	}
	want, _ := pathWritten(book.Base, allSaidFlight("kl1"))
	if !same(again, want) || !same(other, want) {
		t.Error("a write into an answer changed another one")
	}
	checkPath(t, "behind a write into an answer", book, "kl1", want)
	checkOver(t, "behind a write into an answer", book, "kl1", "b", 8, 13)
}
