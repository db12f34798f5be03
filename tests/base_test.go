package tests

import (
	"fmt"
	"math"
	"testing"

	"loop.example/lapplan/impl"
)

// sampleBase has spare room behind both lists, so that a write behind an end shows.
func sampleBase() impl.PlanBase {
	kinds := make([]impl.PlanKind, 0, 8)
	kinds = append(kinds, impl.PlanKind{Name: "glider", Quick: 3, Slow: 50}, impl.PlanKind{Name: "jet", Quick: 1, Slow: 2})
	points := make([]impl.PlanPoint, 0, 24)
	points = append(points, impl.PlanPoint{Name: "a"}, impl.PlanPoint{Name: "a-1", X: 15, Y: 15}, impl.PlanPoint{Name: "b", X: 3, Y: 1}, impl.PlanPoint{Name: "c", X: 3, Y: 4})
	return impl.PlanBase{Kinds: kinds, Points: points}
}

// manyKinds and manyPoints are ok but for their number.
func manyKinds(n int) []impl.PlanKind {
	var out []impl.PlanKind
	for i := range n {
		out = append(out, impl.PlanKind{Name: fmt.Sprintf("k%03d", i), Quick: 1, Slow: 1})
	}
	return out
}

func manyPoints(n int) []impl.PlanPoint {
	var out []impl.PlanPoint
	for i := range n {
		out = append(out, impl.PlanPoint{Name: fmt.Sprintf("p%03d", i), X: i % impl.PlanMaxSide, Y: i / impl.PlanMaxSide})
	}
	return out
}

func kindsOnly(kinds ...impl.PlanKind) impl.PlanBase {
	return impl.PlanBase{Kinds: kinds}
}

func pointsOnly(points ...impl.PlanPoint) impl.PlanBase {
	return impl.PlanBase{Points: points}
}

func checkBase(t *testing.T, what string, b impl.PlanBase, want bool) {
	t.Helper()
	if got := impl.PlanBaseOk(b); got != want {
		t.Errorf("%s: PlanBaseOk(%#v) = %v", what, b, got)
	}
}

func TestLimitsAreTheDocuments(t *testing.T) {
	got := []int{impl.PlanMaxName, impl.PlanMaxSide, impl.PlanMaxLevel, impl.PlanMaxTick, impl.PlanMaxSlow, impl.PlanMaxKinds, impl.PlanMaxPoints, impl.PlanMaxNumber, impl.PlanMaxRoute}
	want := []int{8, 16, 6, 10000, 50, 6, 16, 1000000, 8}
	for i := range want {
		if got[i] != want[i] {
			t.Errorf("limit %d is %d, not %d", i, got[i], want[i])
		}
	}
}

func TestBaseOrdinary(t *testing.T) {
	checkBase(t, "sample", sampleBase(), true)
	checkBase(t, "nothing", impl.PlanBase{}, true)
	checkBase(t, "empty lists", impl.PlanBase{Kinds: []impl.PlanKind{}, Points: []impl.PlanPoint{}}, true)
	checkBase(t, "a kind and a point of one name", impl.PlanBase{Kinds: manyKinds(1), Points: []impl.PlanPoint{{Name: "k000"}}}, true)
}

func TestBaseSizes(t *testing.T) {
	checkBase(t, "most kinds", kindsOnly(manyKinds(impl.PlanMaxKinds)...), true)
	checkBase(t, "one kind more", kindsOnly(manyKinds(impl.PlanMaxKinds+1)...), false)
	checkBase(t, "most points", pointsOnly(manyPoints(impl.PlanMaxPoints)...), true)
	checkBase(t, "one point more", pointsOnly(manyPoints(impl.PlanMaxPoints+1)...), false)
	checkBase(t, "most of both", impl.PlanBase{Kinds: manyKinds(impl.PlanMaxKinds), Points: manyPoints(impl.PlanMaxPoints)}, true)
}

// goodNames and badNames are used wherever a name is asked for.
func goodNames() []string {
	return []string{"a", "z", "0", "9", "-", "--------", "abcdefgh", "00000000", "kl-1", "-a", "a-", "set", "kind"}
}

func badNames() []string {
	bad := []string{"", "abcdefghi", "A", "Z", "aB", "a b", " a", "a ", "a_b", "a.b", "a/b", "a:b", "`", "{", "+1", "\x00", "a\x00", "a\n", "a\t", "\xff", "a\x80", "\xc3", "é", "äb", "\uff41", "٣", "−", "�", "aaaaaaa\xff"}
	for c := range 256 {
		if c >= 'a' && c <= 'z' || c >= '0' && c <= '9' || c == '-' {
			continue
		}
		bad = append(bad, string([]byte{byte(c)}), string([]byte{'a', byte(c), 'b'}))
	}
	return bad
}

func TestBaseNames(t *testing.T) {
	for _, name := range goodNames() {
		checkBase(t, "kind's name", kindsOnly(impl.PlanKind{Name: name, Quick: 1, Slow: 1}), true)
		checkBase(t, "point's name", pointsOnly(impl.PlanPoint{Name: name}), true)
	}
	for _, name := range badNames() {
		checkBase(t, "kind's name", kindsOnly(impl.PlanKind{Name: name, Quick: 1, Slow: 1}), false)
		checkBase(t, "point's name", pointsOnly(impl.PlanPoint{Name: name}), false)
	}
	last := manyKinds(3)
	last[2].Name = "k003x!"
	checkBase(t, "the last kind's name", kindsOnly(last...), false)
}

func TestBaseAscending(t *testing.T) {
	for _, c := range []struct {
		first, second string
		ok            bool
	}{
		{"a", "b", true}, {"b", "a", false}, {"a", "a", false},
		{"a", "aa", true}, {"aa", "a", false},
		{"-", "0", true}, {"0", "-", false}, {"9", "a", true}, {"a", "9", false},
		{"10", "9", true}, {"9", "10", false},
	} {
		checkBase(t, "kinds", kindsOnly(impl.PlanKind{Name: c.first, Quick: 1, Slow: 1}, impl.PlanKind{Name: c.second, Quick: 1, Slow: 1}), c.ok)
		checkBase(t, "points", pointsOnly(impl.PlanPoint{Name: c.first}, impl.PlanPoint{Name: c.second, X: 1}), c.ok)
	}
	last := manyPoints(3)
	last[2].Name = "p000"
	checkBase(t, "the last one falls back", pointsOnly(last...), false)
}

func TestBasePaces(t *testing.T) {
	for _, c := range []struct {
		quick, slow int
		ok          bool
	}{
		{1, 1, true}, {1, 50, true}, {50, 50, true}, {49, 50, true},
		{0, 1, false}, {0, 0, false}, {-1, 1, false}, {-2, -1, false}, {2, 1, false},
		{1, 51, false}, {51, 51, false}, {50, 49, false}, {1, 0, false},
		{math.MinInt, 1, false}, {1, math.MaxInt, false}, {math.MinInt, math.MaxInt, false},
	} {
		checkBase(t, "pace", kindsOnly(impl.PlanKind{Name: "k", Quick: c.quick, Slow: c.slow}), c.ok)
		checkBase(t, "the second one's pace", kindsOnly(impl.PlanKind{Name: "a", Quick: 1, Slow: 1}, impl.PlanKind{Name: "k", Quick: c.quick, Slow: c.slow}), c.ok)
	}
}

func TestBaseCells(t *testing.T) {
	for _, c := range []struct {
		at int
		ok bool
	}{{0, true}, {1, true}, {15, true}, {-1, false}, {16, false}, {17, false}, {math.MinInt, false}, {math.MaxInt, false}} {
		checkBase(t, "X", pointsOnly(impl.PlanPoint{Name: "p", X: c.at}), c.ok)
		checkBase(t, "Y", pointsOnly(impl.PlanPoint{Name: "p", Y: c.at}), c.ok)
		checkBase(t, "the second one's Y", pointsOnly(impl.PlanPoint{Name: "o", X: 7}, impl.PlanPoint{Name: "p", Y: c.at}), c.ok)
	}
	at := func(name string, x, y int) impl.PlanPoint { return impl.PlanPoint{Name: name, X: x, Y: y} }
	checkBase(t, "one cell", pointsOnly(at("a", 2, 5), at("b", 2, 5)), false)
	checkBase(t, "one cell, with another between", pointsOnly(at("a", 2, 5), at("b", 3, 5), at("c", 2, 5)), false)
	checkBase(t, "one cell, the last two", pointsOnly(at("a", 0, 5), at("b", 3, 5), at("c", 3, 5)), false)
	checkBase(t, "one X", pointsOnly(at("a", 2, 5), at("b", 2, 6)), true)
	checkBase(t, "one Y", pointsOnly(at("a", 2, 5), at("b", 3, 5)), true)
	checkBase(t, "turned", pointsOnly(at("a", 2, 5), at("b", 5, 2)), true)
}
