package tests

import (
	"math"
	"reflect"
	"strings"
	"testing"

	"loop.example/lapplan/impl"
)

type fitCase struct {
	value string
	ok    bool
}

func checkFits(t *testing.T, what int, cases []fitCase) {
	t.Helper()
	for _, c := range cases {
		if got := impl.PlanFits(sampleBase(), what, c.value); got != c.ok {
			t.Errorf("PlanFits(_, %d, %q) = %v", what, c.value, got)
		}
	}
}

func TestFitsKind(t *testing.T) {
	checkFits(t, impl.PlanOfKind, []fitCase{
		{"jet", true}, {"glider", true},
		{"", false}, {"je", false}, {"jett", false}, {"Jet", false}, {" jet", false}, {"jet ", false},
		{"jet\n", false}, {"jet jet", false}, {"glider jet", false}, {"a", false}, {"open", false}, {"jet\xff", false},
	})
	if impl.PlanFits(impl.PlanBase{}, impl.PlanOfKind, "") || impl.PlanFits(impl.PlanBase{}, impl.PlanOfKind, "jet") {
		t.Error("a base without kinds has a kind")
	}
}

func TestFitsTime(t *testing.T) {
	checkFits(t, impl.PlanOfTime, []fitCase{
		{"0 0", true}, {"0 1", true}, {"5 5", true}, {"9 10", true}, {"100 105", true}, {"0 10000", true}, {"10000 10000", true}, {"9999 10000", true},
		{"0 10001", false}, {"10000 10001", false}, {"10001 10001", false}, {"10001 10000", false}, {"5 4", false}, {"10 9", false}, {"1 0", false},
		{"", false}, {"5", false}, {"5 ", false}, {" 5", false}, {" ", false}, {"  ", false}, {"5 5 5", false}, {"5 5 ", false}, {" 5 5", false}, {"5  5", false}, {"5 5\n", false}, {"5\n5", false}, {"5\t5", false}, {"5,5", false},
		{"00 5", false}, {"0 00", false}, {"05 6", false}, {"5 06", false}, {"+5 6", false}, {"5 +6", false}, {"-5 6", false}, {"-0 6", false}, {"5 -6", false}, {"- 6", false},
		{"5.0 6", false}, {"5 6.", false}, {"1e1 20", false}, {"0x1 20", false}, {"1_0 20", false}, {"a b", false}, {"5 b", false}, {"a 5", false},
		{"٣ 4", false}, {"\uff15 6", false}, {"5\u00a06", false}, {"5\xff 6", false}, {"5 6\x00", false}, {"5/ 6", false}, {"5 :", false},
		{"0 1000000", false}, {"0 9999999", false}, {"0 10000000", false}, {"0 99999999999999999999", false}, {"0 18446744073709551616", false}, {"18446744073709551616 5", false}, {"4294967296 5", false}, {"0000000 5", false}, {"0 00000005", false},
	})
}

func TestFitsLevel(t *testing.T) {
	checkFits(t, impl.PlanOfLevel, []fitCase{
		{"1", true}, {"2", true}, {"3", true}, {"4", true}, {"5", true}, {"6", true},
		{"0", false}, {"7", false}, {"8", false}, {"9", false}, {"10", false}, {"11", false}, {"01", false}, {"06", false}, {"0000001", false}, {"+1", false}, {"-1", false}, {"-0", false}, {"", false}, {" ", false}, {" 1", false}, {"1 ", false}, {"1 1", false}, {"1\n", false},
		{"1.0", false}, {"1.", false}, {"0x1", false}, {"1e0", false}, {"a", false}, {"٣", false}, {"\uff11", false}, {"\xff", false}, {"1\xff", false}, {"/", false}, {":", false}, {"18446744073709551617", false}, {"4294967297", false}, {"00000001", false},
	})
}

func TestFitsRoute(t *testing.T) {
	checkFits(t, impl.PlanOfRoute, []fitCase{
		{"a b", true}, {"a b a", true}, {"a-1 a", true}, {"a a-1", true}, {"c b a a-1", true}, {"a b a b a b a b", true}, {"a b c a b c a b", true},
		{"a b a b a b a b a", false}, {"a b a b a b a b ", false}, {"a", false}, {"", false}, {" ", false}, {"a ", false}, {" a", false},
		{"a a", false}, {"a b b", false}, {"a a b", false}, {"a b c c", false}, {"a-1 a-1", false},
		{"a  b", false}, {" a b", false}, {"a b ", false}, {"a b\n", false}, {"a\nb", false}, {"a\tb", false}, {"a,b", false}, {"ab", false},
		{"a d", false}, {"d a", false}, {"a b d", false}, {"A b", false}, {"a jet", false}, {"a B", false}, {"a b\xff", false}, {"a\xffb", false}, {"a\u00a0b", false}, {"a\u2003b", false}, {"a -", false},
	})
}

func TestFitsState(t *testing.T) {
	checkFits(t, impl.PlanOfState, []fitCase{
		{"open", true}, {"closed", true},
		{"", false}, {"ope", false}, {"opened", false}, {"close", false}, {"Open", false}, {"CLOSED", false}, {" open", false}, {"open ", false}, {"open\n", false}, {"open closed", false}, {"1", false}, {"a", false}, {"jet", false}, {"closed\xff", false},
	})
}

// fitting is a value that fits, for each What of the table.
func fitting() map[int]string {
	return map[int]string{impl.PlanOfKind: "jet", impl.PlanOfTime: "5 6", impl.PlanOfLevel: "3", impl.PlanOfRoute: "a b", impl.PlanOfState: "open"}
}

func TestFitsWhatOfTheTableOnly(t *testing.T) {
	if impl.PlanOfKind != 1 || impl.PlanOfTime != 2 || impl.PlanOfLevel != 3 || impl.PlanOfRoute != 4 || impl.PlanOfState != 5 {
		t.Error("the constants are not the table's")
	}
	for _, value := range fitting() {
		for _, what := range []int{0, 6, -1, 7, 257, math.MinInt, math.MaxInt} {
			if impl.PlanFits(sampleBase(), what, value) {
				t.Errorf("PlanFits(_, %d, %q)", what, value)
			}
		}
	}
	for what := range fitting() {
		for other, value := range fitting() {
			if got := impl.PlanFits(sampleBase(), what, value); got != (what == other) {
				t.Errorf("PlanFits(_, %d, %q) = %v", what, value, got)
			}
		}
	}
}

// brokenBases have all that the fitting values name, and one thing that is not ok.
func brokenBases() []impl.PlanBase {
	var out []impl.PlanBase
	for _, breakIt := range []func(b *impl.PlanBase){
		func(b *impl.PlanBase) { b.Kinds[0].Quick = 0 },
		func(b *impl.PlanBase) { b.Kinds[0].Slow = impl.PlanMaxSlow + 1 },
		func(b *impl.PlanBase) { b.Kinds[0].Name = "" },
		func(b *impl.PlanBase) { b.Kinds[0], b.Kinds[1] = b.Kinds[1], b.Kinds[0] },
		func(b *impl.PlanBase) { b.Kinds = append(b.Kinds, b.Kinds[1]) },
		func(b *impl.PlanBase) { b.Points[3].X = impl.PlanMaxSide },
		func(b *impl.PlanBase) { b.Points[3].Y = -1 },
		func(b *impl.PlanBase) { b.Points[3].Name = "C" },
		func(b *impl.PlanBase) { b.Points[3].X, b.Points[3].Y = 0, 0 },
		func(b *impl.PlanBase) { b.Points = append(b.Points, b.Points[3]) },
	} {
		b := sampleBase()
		breakIt(&b)
		out = append(out, b)
	}
	return out
}

func TestFitsNothingOnABrokenBase(t *testing.T) {
	for i, b := range brokenBases() {
		checkBase(t, "broken", b, false)
		for what, value := range fitting() {
			if impl.PlanFits(b, what, value) {
				t.Errorf("base %d: PlanFits(_, %d, %q)", i, what, value)
			}
			if impl.PlanChangeOk(b, impl.PlanChange{Flight: "kl1", What: what, Number: 1, Value: value}) {
				t.Errorf("base %d: PlanChangeOk of what %d", i, what)
			}
		}
	}
}

func checkChange(t *testing.T, c impl.PlanChange, want bool) {
	t.Helper()
	if got := impl.PlanChangeOk(sampleBase(), c); got != want {
		t.Errorf("PlanChangeOk(_, %#v) = %v", c, got)
	}
}

func TestChangeOk(t *testing.T) {
	for what, value := range fitting() {
		checkChange(t, impl.PlanChange{Flight: "kl1", What: what, Number: 1, Value: value}, true)
		for _, flight := range goodNames() {
			checkChange(t, impl.PlanChange{Flight: flight, What: what, Number: 7, Value: value}, true)
		}
		for _, flight := range badNames() {
			checkChange(t, impl.PlanChange{Flight: flight, What: what, Number: 7, Value: value}, false)
		}
		for _, number := range []int{1, 2, 999999, 1000000} {
			checkChange(t, impl.PlanChange{Flight: "kl1", What: what, Number: number, Value: value}, true)
		}
		for _, number := range badNumbers() {
			checkChange(t, impl.PlanChange{Flight: "kl1", What: what, Number: number, Value: value}, false)
		}
		checkChange(t, impl.PlanChange{Flight: "kl1", What: what, Number: 1, Value: value + " "}, false)
		checkChange(t, impl.PlanChange{Flight: "kl1", What: what, Number: 1}, false)
		checkChange(t, impl.PlanChange{Flight: "kl1", What: what + 5, Number: 1, Value: value}, false)
		checkChange(t, impl.PlanChange{Flight: "kl1", What: what - 5, Number: 1, Value: value}, false)
	}
	checkChange(t, impl.PlanChange{}, false)
}

// A name alone fits where just one list has it, and the other list does not count.
func TestFitsLooksIntoItsOwnList(t *testing.T) {
	b := impl.PlanBase{Kinds: []impl.PlanKind{{Name: "x", Quick: 1, Slow: 1}, {Name: "y", Quick: 1, Slow: 1}}, Points: []impl.PlanPoint{{Name: "p"}, {Name: "q", X: 1}}}
	if !impl.PlanFits(b, impl.PlanOfKind, "y") || impl.PlanFits(b, impl.PlanOfKind, "p") {
		t.Error("kind")
	}
	if !impl.PlanFits(b, impl.PlanOfRoute, "p q") || impl.PlanFits(b, impl.PlanOfRoute, "x y") {
		t.Error("route")
	}
}

func TestNothingIsWrittenIntoABase(t *testing.T) {
	b, same := sampleBase(), sampleBase()
	for what, value := range fitting() {
		impl.PlanFits(b, what, value)
		impl.PlanChangeOk(b, impl.PlanChange{Flight: "kl1", What: what, Number: 1, Value: value})
	}
	impl.PlanBaseOk(b)
	if !reflect.DeepEqual(b, same) || !reflect.DeepEqual(b.Kinds[:cap(b.Kinds)], same.Kinds[:cap(same.Kinds)]) || !reflect.DeepEqual(b.Points[:cap(b.Points)], same.Points[:cap(same.Points)]) {
		t.Errorf("%#v", b)
	}
}

func TestLongValuesAreAnswered(t *testing.T) {
	for what := range fitting() {
		for _, piece := range []string{" ", "0", "9", "a ", "a b ", "\xff", "jet"} {
			if value := strings.Repeat(piece, 100000); impl.PlanFits(sampleBase(), what, value) {
				t.Errorf("what %d takes %q many times", what, piece)
			}
		}
	}
}
