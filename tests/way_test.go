package tests

import (
	"fmt"
	"math"
	"math/rand"
	"slices"
	"strings"
	"testing"

	"loop.example/lapplan/impl"
)

func point(name string, x, y int) impl.PlanPoint {
	return impl.PlanPoint{Name: name, X: x, Y: y}
}

// cellsFrom reads "0,0 1,0" into cells.
func cellsFrom(t *testing.T, text string) []impl.PlanCell {
	t.Helper()
	var cells []impl.PlanCell
	for _, word := range strings.Fields(text) {
		var c impl.PlanCell
		if _, err := fmt.Sscanf(word, "%d,%d", &c.X, &c.Y); err != nil {
			t.Fatal(err)
		}
		cells = append(cells, c)
	}
	return cells
}

func checkCells(t *testing.T, what string, b impl.PlanBase, route []string, want []impl.PlanCell) {
	t.Helper()
	if got, ok := impl.PlanCells(b, route); !ok || !same(got, want) {
		t.Errorf("%s: PlanCells(%v, %q) = %v, %v; not %v", what, b.Points, route, got, ok, want)
	}
}

func checkNoCells(t *testing.T, what string, b impl.PlanBase, route []string) {
	t.Helper()
	if got, ok := impl.PlanCells(b, route); ok || len(got) != 0 {
		t.Errorf("%s: PlanCells(%v, %.200q) = %v, %v", what, b.Points, route, got, ok)
	}
}

func turned[T any](list []T) []T {
	out := slices.Clone(list)
	slices.Reverse(out)
	return out
}

func TestMaxStepsIsTheDocuments(t *testing.T) {
	if impl.PlanMaxSteps != 40 {
		t.Error(impl.PlanMaxSteps)
	}
}

func TestCellsOrdinary(t *testing.T) {
	b := sampleBase()
	for _, c := range []struct{ route, cells string }{
		{"a b", "0,0 1,0 2,1 3,1"},
		{"b c", "3,1 3,2 3,3 3,4"},
		{"a c", "0,0 1,1 2,2 2,3 3,4"},
		{"a b c", "0,0 1,0 2,1 3,1 3,2 3,3 3,4"},
		{"b a-1", "3,1 4,2 5,3 6,4 6,5 7,6 8,7 9,8 10,9 11,10 12,11 12,12 13,13 14,14 15,15"},
	} {
		route, cells := strings.Fields(c.route), cellsFrom(t, c.cells)
		checkCells(t, "ordinary", b, route, cells)
		checkCells(t, "turned round", b, turned(route), turned(cells))
	}
}

// A half goes to the greater number, whichever way the leg goes: each of X and Y up and down, the lesser cell first and second.
func TestCellsAtHalves(t *testing.T) {
	for _, c := range []struct{ what, cells string }{
		{"Y up, the lesser first", "4,4 5,5 6,5"},
		{"Y down, the lesser second", "6,5 5,5 4,4"},
		{"Y down, the lesser first", "4,5 5,5 6,4"},
		{"Y up, the lesser second", "6,4 5,5 4,5"},
		{"X up, the lesser first, Y up", "4,4 5,5 5,6"},
		{"X down, the lesser second, Y down", "5,6 5,5 4,4"},
		{"X up, the lesser first, Y down", "4,6 5,5 5,4"},
		{"X down, the lesser second, Y up", "5,4 5,5 4,6"},
		{"two halves up", "0,0 1,1 2,1 3,2 4,2 5,3 6,3"},
		{"two halves down", "0,3 1,3 2,2 3,2 4,1 5,1 6,0"},
		{"halves among quarters up", "0,0 1,0 2,1 3,1 4,1"},
		{"halves among quarters down", "0,1 1,1 2,1 3,0 4,0"},
		{"three quarters down", "0,3 1,2 2,2 3,1 4,0"},
		{"sixths down", "0,1 1,1 2,1 3,1 4,0 5,0 6,0"},
		{"X by sixths", "1,0 1,1 1,2 2,3 2,4 2,5 2,6"},
		{"down to the edge", "0,1 1,1 2,0"},
		{"at the far edge", "13,14 14,15 15,15"},
		{"down from the far edge", "13,15 14,15 15,14"},
	} {
		cells := cellsFrom(t, c.cells)
		first, last := cells[0], cells[len(cells)-1]
		b := pointsOnly(point("p", first.X, first.Y), point("q", last.X, last.Y))
		checkCells(t, c.what, b, []string{"p", "q"}, cells)
		checkCells(t, c.what+", turned round", b, []string{"q", "p"}, turned(cells))
	}
}

func TestCellsAlongOneAxis(t *testing.T) {
	b := pointsOnly(point("e", 15, 7), point("n", 7, 15), point("s", 7, 0), point("w", 0, 7))
	var across, up []impl.PlanCell
	for at := range impl.PlanMaxSide {
		across = append(across, impl.PlanCell{X: at, Y: 7})
		up = append(up, impl.PlanCell{X: 7, Y: at})
	}
	checkCells(t, "X up", b, []string{"w", "e"}, across)
	checkCells(t, "X down", b, []string{"e", "w"}, turned(across))
	checkCells(t, "Y up", b, []string{"s", "n"}, up)
	checkCells(t, "Y down", b, []string{"n", "s"}, turned(up))
}

func TestCellsOfOneStep(t *testing.T) {
	for x := -1; x <= 1; x++ {
		for y := -1; y <= 1; y++ {
			if x == 0 && y == 0 {
				continue
			}
			b := pointsOnly(point("p", 5, 5), point("q", 5+x, 5+y))
			checkCells(t, "one step", b, []string{"p", "q"}, []impl.PlanCell{{X: 5, Y: 5}, {X: 5 + x, Y: 5 + y}})
		}
	}
}

// nearest is a second writing of what K of N parts of the way come to: it holds each number against the exact place.
func nearest(from, to, k, n int) int {
	best, bestOff := 0, math.MaxInt
	for v := range impl.PlanMaxSide {
		off := v*n - from*n - (to-from)*k
		if off < 0 {
			off = -off
		}
		if off <= bestOff {
			best, bestOff = v, off
		}
	}
	return best
}

func distance(a, b impl.PlanPoint) int {
	return max(a.X-b.X, b.X-a.X, a.Y-b.Y, b.Y-a.Y)
}

// legBetween is a second writing of a leg, both ends with it.
func legBetween(a, b impl.PlanPoint) []impl.PlanCell {
	if a.X > b.X || a.X == b.X && a.Y > b.Y {
		return turned(legBetween(b, a))
	}
	var cells []impl.PlanCell
	n := distance(a, b)
	for k := range n + 1 {
		cells = append(cells, impl.PlanCell{X: nearest(a.X, b.X, k, n), Y: nearest(a.Y, b.Y, k, n)})
	}
	return cells
}

// cellsBetween is a second writing of the cells along a route that fits, without the limit.
func cellsBetween(b impl.PlanBase, route []string) []impl.PlanCell {
	var cells []impl.PlanCell
	for i := 1; i < len(route); i++ {
		legs := legBetween(pointOf(b, route[i-1]), pointOf(b, route[i]))
		if i > 1 {
			legs = legs[1:]
		}
		cells = append(cells, legs...)
	}
	return cells
}

func pointOf(b impl.PlanBase, name string) impl.PlanPoint {
	return b.Points[slices.IndexFunc(b.Points, func(p impl.PlanPoint) bool { return p.Name == name })]
}

func TestEachLegAgainstASecondWriting(t *testing.T) {
	const all = impl.PlanMaxSide * impl.PlanMaxSide
	for i := range all {
		for k := range all {
			if i == k {
				continue
			}
			p, q := point("p", i%impl.PlanMaxSide, i/impl.PlanMaxSide), point("q", k%impl.PlanMaxSide, k/impl.PlanMaxSide)
			got, ok := impl.PlanCells(pointsOnly(p, q), []string{"p", "q"})
			if want := legBetween(p, q); !ok || !slices.Equal(got, want) {
				t.Fatalf("from %+v to %+v: %v, %v; not %v", p, q, got, ok, want)
			}
		}
	}
}

func TestCellsComeBack(t *testing.T) {
	b := pointsOnly(point("a", 0, 0), point("b", 2, 1), point("c", 2, 3))
	for _, c := range []struct{ route, cells string }{
		{"a b a", "0,0 1,1 2,1 1,1 0,0"},
		{"b a b", "2,1 1,1 0,0 1,1 2,1"},
		{"a b a b", "0,0 1,1 2,1 1,1 0,0 1,1 2,1"},
		{"a b c a", "0,0 1,1 2,1 2,2 2,3 1,2 1,1 0,0"},
		{"a b c b a", "0,0 1,1 2,1 2,2 2,3 2,2 2,1 1,1 0,0"},
		{"c b c b c b c b", "2,3 2,2 2,1 2,2 2,3 2,2 2,1 2,2 2,3 2,2 2,1 2,2 2,3 2,2 2,1"},
	} {
		checkCells(t, "comes back", b, strings.Fields(c.route), cellsFrom(t, c.cells))
	}
}

// wayBase has routes of each length about the limit: corners of the field, and points along its upper side.
func wayBase() impl.PlanBase {
	b := impl.PlanBase{Kinds: []impl.PlanKind{{Name: "jet", Quick: 1, Slow: 2}, {Name: "slow", Quick: 3, Slow: 50}}}
	b.Points = []impl.PlanPoint{point("ne", 15, 15), point("se", 15, 0), point("sw", 0, 0)}
	for _, x := range []int{4, 5, 6, 7} {
		b.Points = append(b.Points, point(fmt.Sprint("u", x), x, 15))
	}
	return b
}

func TestCellsAtTheLimit(t *testing.T) {
	for _, c := range []struct {
		route string
		cells int
	}{
		{"sw se ne u7", 39}, {"sw se ne u6", 40}, {"sw se ne u5", 41}, {"sw se ne u4", 42},
		{"u6 ne se sw", 40}, {"u5 ne se sw", 41},
		{"sw se sw u6 u4 u6", 50}, {"sw se sw u5 u6 u7 u6 u5", 50},
		{"sw se ne u6 u5", 41}, {"sw se ne u7 u6", 40}, {"sw ne sw ne sw ne sw ne", 106},
	} {
		route := strings.Fields(c.route)
		want := cellsBetween(wayBase(), route)
		if len(want) != c.cells {
			t.Fatalf("%s: %d cells", c.route, len(want))
		}
		if c.cells <= 40 {
			checkCells(t, c.route, wayBase(), route, want)
		} else {
			checkNoCells(t, c.route, wayBase(), route)
		}
	}
}

func TestCellsOfRoutesThatDoNotFit(t *testing.T) {
	b := sampleBase()
	for _, route := range [][]string{
		nil, {}, {""}, {"a"}, {"", ""}, {"a", ""}, {"", "a"}, {"a", "", "b"},
		{"a", "a"}, {"a", "b", "b"}, {"a", "a", "b"}, {"a", "b", "b", "a"},
		{"a", "d"}, {"d", "a"}, {"a", "b", "d"}, {"a", "d", "b"}, {"A", "b"},
		{"jet", "glider"}, {"a", "jet"}, {"a", "b "}, {" a", "b"}, {"a", "b\n"}, {"a\x00", "b"}, {"a", "\xff"},
		{"a b"}, {"a b", "c"}, {"a", "b c"}, {"a b c"}, {"a,b"},
		strings.Fields("a b a b a b a b a"),
		strings.Fields(strings.Repeat("a b ", 50000)),
		{"a", strings.Repeat("b", 1000000)},
	} {
		checkNoCells(t, "does not fit", b, route)
		checkNoCells(t, "no points", impl.PlanBase{Kinds: b.Kinds}, route)
	}
	near := pointsOnly(point("a", 0, 0), point("b", 1, 1))
	checkCells(t, "the most points of a route", near, strings.Fields("a b a b a b a b"), cellsFrom(t, "0,0 1,1 0,0 1,1 0,0 1,1 0,0 1,1"))
	checkNoCells(t, "one point more", near, strings.Fields("a b a b a b a b a"))
}

func TestCellsOnABaseThatIsNotOk(t *testing.T) {
	for i, b := range brokenBases() {
		checkNoCells(t, fmt.Sprint("base ", i), b, []string{"a", "b"})
	}
	for _, far := range []int{math.MinInt, math.MinInt + 1, -1000000, -1, 16, 1000000, math.MaxInt - 1, math.MaxInt} {
		for _, p := range []impl.PlanPoint{point("b", far, 1), point("b", 1, far), point("b", far, far), point("b", far, -far)} {
			checkNoCells(t, "far away", pointsOnly(point("a", 0, 0), p), []string{"a", "b"})
			checkNoCells(t, "from far away", pointsOnly(point("a", 0, 0), p), []string{"b", "a"})
			checkNoCells(t, "far away, not named", pointsOnly(point("a", 0, 0), p, point("c", 3, 3)), []string{"a", "c"})
		}
	}
	checkNoCells(t, "one point too many", pointsOnly(manyPoints(impl.PlanMaxPoints+1)...), []string{"p000", "p001"})
	checkNoCells(t, "kinds that are not ok", impl.PlanBase{Kinds: manyKinds(impl.PlanMaxKinds + 1), Points: manyPoints(2)}, []string{"p000", "p001"})
	checkNoCells(t, "nothing", impl.PlanBase{}, []string{"a", "b"})
	checkNoCells(t, "nothing at all", impl.PlanBase{}, nil)
}

// randomWayBase is ok; the lesser its side, the shorter its legs.
func randomWayBase(r *rand.Rand) impl.PlanBase {
	side := 3 + r.Intn(impl.PlanMaxSide-2)
	var b impl.PlanBase
	for i, at := range r.Perm(side * side)[:min(3+r.Intn(14), side*side)] {
		b.Points = append(b.Points, point(fmt.Sprintf("p%02d", i), at%side, at/side))
	}
	for i := range 1 + r.Intn(impl.PlanMaxKinds) {
		quick := 1 + r.Intn(impl.PlanMaxSlow)
		b.Kinds = append(b.Kinds, impl.PlanKind{Name: fmt.Sprint("k", i), Quick: quick, Slow: quick + r.Intn(impl.PlanMaxSlow+1-quick)})
	}
	return b
}

func randomRoute(r *rand.Rand, b impl.PlanBase) []string {
	var route []string
	for n := 2 + r.Intn(impl.PlanMaxRoute-1); len(route) < n; {
		name := b.Points[r.Intn(len(b.Points))].Name
		if len(route) == 0 || route[len(route)-1] != name {
			route = append(route, name)
		}
	}
	return route
}

// Promise 8: a route turned round has the cells turned round.
func TestRoutesTurnedRound(t *testing.T) {
	r := rand.New(rand.NewSource(15))
	within, over := 0, 0
	for range 4000 {
		b := randomWayBase(r)
		route := randomRoute(r, b)
		cells := cellsBetween(b, route)
		if len(cells) > impl.PlanMaxSteps {
			over++
			checkNoCells(t, "too many", b, route)
			checkNoCells(t, "too many, turned round", b, turned(route))
			continue
		}
		within++
		checkCells(t, "random", b, route, cells)
		checkCells(t, "random, turned round", b, turned(route), turned(cells))
	}
	if within < 1000 || over < 200 {
		t.Errorf("%d within the limit and %d over it are too few", within, over)
	}
}

func TestLevelsOrdinary(t *testing.T) {
	for _, c := range []struct {
		steps, level int
		want         []int
	}{
		{1, 1, []int{0}}, {1, 6, []int{0}},
		{2, 1, []int{0, 0}}, {2, 6, []int{0, 0}},
		{3, 1, []int{0, 1, 0}}, {3, 6, []int{0, 1, 0}},
		{4, 1, []int{0, 1, 1, 0}}, {4, 2, []int{0, 1, 1, 0}}, {5, 2, []int{0, 1, 2, 1, 0}},
		{5, 1, []int{0, 1, 1, 1, 0}}, {7, 2, []int{0, 1, 2, 2, 2, 1, 0}}, {7, 3, []int{0, 1, 2, 3, 2, 1, 0}}, {7, 4, []int{0, 1, 2, 3, 2, 1, 0}},
		{12, 6, []int{0, 1, 2, 3, 4, 5, 5, 4, 3, 2, 1, 0}},
		{13, 6, []int{0, 1, 2, 3, 4, 5, 6, 5, 4, 3, 2, 1, 0}},
		{14, 6, []int{0, 1, 2, 3, 4, 5, 6, 6, 5, 4, 3, 2, 1, 0}},
	} {
		if got := impl.PlanLevels(c.steps, c.level); !same(got, c.want) {
			t.Errorf("PlanLevels(%d, %d) = %v, not %v", c.steps, c.level, got, c.want)
		}
	}
}

// levelsOf is a second writing: up from the ground and down to it, cut off at the level.
func levelsOf(steps, level int) []int {
	levels := make([]int, steps)
	for k := range levels {
		if k > steps/2 {
			levels[k] = levels[steps-1-k]
		} else if behind := steps - k - 1; behind < k {
			levels[k] = behind
		} else {
			levels[k] = k
		}
	}
	for k := range levels {
		if levels[k] > level {
			levels[k] = level
		}
	}
	return levels
}

func TestLevelsOfEachNumber(t *testing.T) {
	for steps := -3; steps <= impl.PlanMaxSteps+3; steps++ {
		for level := -3; level <= impl.PlanMaxLevel+3; level++ {
			var want []int
			if steps >= 1 && steps <= impl.PlanMaxSteps && level >= 1 && level <= impl.PlanMaxLevel {
				want = levelsOf(steps, level)
			}
			if got := impl.PlanLevels(steps, level); !same(got, want) {
				t.Errorf("PlanLevels(%d, %d) = %v, not %v", steps, level, got, want)
			}
		}
	}
	for _, far := range []int{math.MinInt, math.MinInt + 1, -1000000, 1000000, math.MaxInt - 1, math.MaxInt} {
		if len(impl.PlanLevels(far, 1)) != 0 || len(impl.PlanLevels(5, far)) != 0 || len(impl.PlanLevels(far, far)) != 0 || len(impl.PlanLevels(far, -far)) != 0 {
			t.Errorf("PlanLevels answers at %d", far)
		}
	}
}

func TestWaysAreNewMemory(t *testing.T) {
	b := wayBase()
	b.Points = withSpare(point("noise", 9, 9), b.Points...)
	route := withSpare("noise", strings.Fields("sw se ne u6")...)
	tooFar := withSpare("noise", strings.Fields("sw se ne u5")...)
	before := whole(b) + whole(route) + whole(tooFar)
	cells, _ := impl.PlanCells(b, route)
	again, _ := impl.PlanCells(b, route)
	impl.PlanCells(b, tooFar)
	checkFresh(t, "PlanCells", []any{cells}, b, route, again)
	levels, levelsAgain := impl.PlanLevels(40, 6), impl.PlanLevels(40, 6)
	checkFresh(t, "PlanLevels", []any{levels}, levelsAgain)
	for i := range cells {
		cells[i], levels[i] = impl.PlanCell{X: 99, Y: 99}, 99
	}
	_ = append(cells[:1], impl.PlanCell{X: 98})
	_ = append(levels[:1], 98)
	if whole(b)+whole(route)+whole(tooFar) != before {
		t.Error("what was handed in is not as it was")
	}
	if !same(again, cellsBetween(b, route)) || !same(levelsAgain, levelsOf(40, 6)) {
		t.Error("a write into an answer changed another one")
	}
	checkCells(t, "behind a write into an answer", b, route, again)
}
