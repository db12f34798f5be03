package tests

import (
	"fmt"
	"math/rand"
	"regexp"
	"slices"
	"strconv"
	"strings"
	"testing"

	"loop.example/lapplan/impl"
)

// sampleHead is sampleBase as lines, in no order.
const sampleHead = "point b 3 1\nkind jet 1 2\npoint a 0 0\npoint c 3 4\nkind glider 3 50\npoint a-1 15 15\n"

const sampleText = "kind glider 3 50\nkind jet 1 2\npoint a 0 0\npoint a-1 15 15\npoint b 3 1\npoint c 3 4\n" +
	"set b level 4 2\nset kl1 kind 1 jet\nset kl1 time 7 5 6\nset kl1 level 2 4\nset kl1 route 1000000 a b c\nset kl1 state 1 open\n" +
	"set x-9 time 3 0 10000\nset x-9 state 2 closed\n"

func fault(line, code int) impl.PlanFault {
	return impl.PlanFault{Line: line, Code: code}
}

func checkParse(t *testing.T, text string, want impl.PlanBook) {
	t.Helper()
	if got, f := impl.PlanParse(text); f != fault(0, 0) || !same(got, want) {
		t.Errorf("PlanParse(%q) = %+v, %+v; not %+v", text, got, f, want)
	}
}

func checkFault(t *testing.T, text string, want impl.PlanFault) {
	t.Helper()
	if got, f := impl.PlanParse(text); f != want || !same(got, impl.PlanBook{}) {
		t.Errorf("PlanParse(%q) = %+v, %+v; not nothing and %+v", text, got, f, want)
	}
}

// checkLine looks at a line behind others that have no fault: a code, or 0.
func checkLine(t *testing.T, head, line string, code int) {
	t.Helper()
	number := strings.Count(head, "\n") + 1
	want, behind := fault(number, code), fault(number, code)
	if code == 0 {
		want, behind = fault(0, 0), fault(number+1, 2)
	}
	for text, want := range map[string]impl.PlanFault{head: {}, head + line: want, head + line + "\n": want, head + line + "\nno such line": behind} {
		if _, f := impl.PlanParse(text); f != want {
			t.Errorf("PlanParse(%q): %+v, not %+v", text, f, want)
		}
	}
}

func TestTextLimitsAreTheDocuments(t *testing.T) {
	if impl.PlanMaxText != 10000 || impl.PlanMaxLines != 200 {
		t.Error(impl.PlanMaxText, impl.PlanMaxLines)
	}
}

func TestParseOrdinary(t *testing.T) {
	checkParse(t, "", impl.PlanBook{})
	checkParse(t, sampleText, sampleBook())
	checkParse(t, strings.TrimSuffix(sampleText, "\n"), sampleBook())
	checkParse(t, sampleHead, bookWith())
	checkParse(t, "kind k 1 1", kindsBook(impl.PlanKind{Name: "k", Quick: 1, Slow: 1}))
	checkParse(t, "kind k 50 50\n", kindsBook(impl.PlanKind{Name: "k", Quick: 50, Slow: 50}))
	checkParse(t, "set k level 1 2", impl.PlanBook{Entries: []impl.PlanEntry{entry("k", field(3, 1, "2"))}})
	checkParse(t, sampleHead+"set k level 3 2\nset j state 1 open\nset k level 2 5\nset k level 3 1\nset k level 3 2\nset k level 3 3\nset k kind 1 jet",
		bookWith(entry("j", field(5, 1, "open")), entry("k", field(1, 1, "jet"), field(3, 3, "3"))))
}

func kindsBook(kinds ...impl.PlanKind) impl.PlanBook {
	return impl.PlanBook{Base: impl.PlanBase{Kinds: kinds}}
}

// Kinds and points may come in any order, and among changes that do not name them yet.
func TestParseSortsTheBase(t *testing.T) {
	r := rand.New(rand.NewSource(11))
	lines := strings.Split(strings.TrimSuffix(sampleHead, "\n"), "\n")
	for range 200 {
		r.Shuffle(len(lines), func(i, k int) { lines[i], lines[k] = lines[k], lines[i] })
		at := r.Intn(len(lines) + 1)
		text := strings.Join(slices.Insert(slices.Clone(lines), at, "set k level 1 3"), "\n")
		checkParse(t, text, bookWith(entry("k", field(3, 1, "3"))))
	}
}

func TestParseOfAKindAndAPointOfOneName(t *testing.T) {
	want := impl.PlanBook{Base: impl.PlanBase{Kinds: []impl.PlanKind{{Name: "x", Quick: 1, Slow: 1}}, Points: []impl.PlanPoint{{Name: "x", X: 1, Y: 1}}}}
	checkParse(t, "kind x 1 1\npoint x 1 1\n", want)
	checkParse(t, "point x 1 1\nkind x 1 1\n", want)
}

// A last piece that is empty is no line; an empty line among others is one.
func TestParseEmptyLines(t *testing.T) {
	checkFault(t, "\n", fault(1, 2))
	checkFault(t, "\n\n", fault(1, 2))
	checkFault(t, "\nkind jet 1 2\n", fault(1, 2))
	checkFault(t, "kind jet 1 2\n\n", fault(2, 2))
	checkFault(t, "kind jet 1 2\n\nkind k 1 2\n", fault(2, 2))
	checkFault(t, "kind jet 1 2\nkind k 1 2\n\n\n", fault(3, 2))
	checkFault(t, " ", fault(1, 2))
	checkFault(t, "kind jet 1 2\n ", fault(2, 2))
	checkFault(t, "kind jet 1 2\r\nkind k 1 2\r\n", fault(1, 3))
	checkFault(t, "kind jet 1 2\n\r\n", fault(2, 2))
}

func TestNoSuchLine(t *testing.T) {
	for _, line := range []string{
		" ", "  ", "x", "kinds jet2 1 2", "Kind k 1 2", "kin k 1 2", " kind k 1 2", "\tkind k 1 2", "kind\tk 1 2", "kind,k 1 2", "KIND k 1 2",
		"points p 1 1", "poin p 1 1", " point p 1 1", "Point p 1 1", "point\u00a0p 1 1", "sets k level 1 1", "se k level 1 1", " set k level 1 1", "Set k level 1 1", "set\tk level 1 1",
		"set\x00", "kind\xff", "\xffkind k 1 2", "flights", "path kl1", "over kl1 a", "level k 1 2", "#", "// kind k 1 2", "\r", "\x00", "jet 1 2", "kindk 1 2", "\ufeffkind k 1 2",
	} {
		checkLine(t, sampleHead, line, 2)
		checkLine(t, "", line, 2)
	}
}

// nearlyNumbers are no decimals, though some readers of numbers take them.
func nearlyNumbers() []string {
	return []string{"", "+1", "-1", "-0", "+0", "01", "00", "001", "0x1", "0b1", "0o1", "1_0", "1.", "1.0", ".1", "1e0", "1e1", "a", "one", "1a", "a1", "1,", "1\t", "\t1", "1\r", "1\x00", "1\xff", "\xff", "²", "١", "\uff11", "1\u00a0", "00000001", "10000000", "99999999", "4294967297", "18446744073709551617", "99999999999999999999999", "-", "--1", "1-", "/", ":", "NaN", "Inf", "1/1", "(1)"}
}

func TestKindNotAsWritten(t *testing.T) {
	for _, line := range []string{
		"kind", "kind ", "kind k", "kind k 1", "kind k 1 ", "kind k 1 2 ", "kind k 1 2 3", "kind  k 1 2", "kind k  1 2", "kind k 1  2", "kind k 1 2\t", "kind k\t1 2", "kind 1 2", "kind  1 2", "kind    ",
		"kind k 0 1", "kind k 0 0", "kind k 2 1", "kind k 50 49", "kind k 1 51", "kind k 51 51", "kind k 1 0", "kind k 1 9999999", "kind k 9999999 9999999", "kind k 1000 50",
	} {
		checkLine(t, sampleHead, line, 3)
	}
	for _, number := range nearlyNumbers() {
		checkLine(t, sampleHead, "kind k "+number+" 2", 3)
		checkLine(t, sampleHead, "kind k 1 "+number, 3)
	}
	for _, name := range badNames() {
		if !strings.Contains(name, "\n") {
			checkLine(t, sampleHead, "kind "+name+" 1 2", 3)
		}
	}
	for _, name := range goodNames() {
		checkLine(t, sampleHead, "kind "+name+" 1 2", 0)
	}
	for _, pace := range []string{"1 1", "1 50", "50 50", "49 50", "9 10"} {
		checkLine(t, sampleHead, "kind k "+pace, 0)
	}
}

func TestPointNotAsWritten(t *testing.T) {
	for _, line := range []string{
		"point", "point ", "point p", "point p 1", "point p 1 ", "point p 1 2 ", "point p 1 2 3", "point  p 1 2", "point p  1 2", "point p 1  2", "point p 1 2\t", "point p 1,2", "point 1 2", "point  1 2", "point    ",
		"point p 16 1", "point p 1 16", "point p 16 16", "point p 17 1", "point p 9999999 1", "point p 1 9999999", "point p 100 1",
	} {
		checkLine(t, sampleHead, line, 3)
	}
	for _, number := range nearlyNumbers() {
		checkLine(t, sampleHead, "point p "+number+" 2", 3)
		checkLine(t, sampleHead, "point p 1 "+number, 3)
	}
	for _, name := range badNames() {
		if !strings.Contains(name, "\n") {
			checkLine(t, sampleHead, "point "+name+" 1 2", 3)
		}
	}
	for _, name := range goodNames() {
		checkLine(t, "", "point "+name+" 1 2", 0)
	}
	for _, at := range []string{"0 15", "15 0", "0 1", "1 0", "10 9", "15 14"} {
		checkLine(t, sampleHead, "point p "+at, 0)
	}
}

func TestChangeNotAsWritten(t *testing.T) {
	for _, line := range []string{
		"set", "set ", "set k", "set k level", "set k level 1", "set k level 1 ", "set k level  1 1", "set k  level 1 1", "set  k level 1 1", "set k levels 1 1", "set k Level 1 1", "set k 3 1 1", "set level 1 1", "set k\tlevel 1 1",
		"set k level 0 1", "set k level 1000001 1", "set k level 9999999 1", "set K level 1 1", "set abcdefghi level 1 1", "set \xff level 1 1", "set kl1 level 1\t1",
	} {
		checkLine(t, sampleHead, line, 3)
	}
	for _, number := range nearlyNumbers() {
		checkLine(t, sampleHead, "set k level "+number+" 1", 3)
		checkLine(t, sampleHead, "set k time "+number+" 1 2", 3)
	}
	for _, name := range badNames() {
		if !strings.Contains(name, "\n") {
			checkLine(t, sampleHead, "set "+name+" level 1 2", 3)
		}
	}
}

func TestChangeThatDoesNotFit(t *testing.T) {
	for _, number := range nearlyNumbers() {
		if number != "" {
			checkLine(t, sampleHead, "set k level 1 "+number, 7)
			checkLine(t, sampleHead, "set k time 1 "+number+" 10", 7)
			checkLine(t, sampleHead, "set k time 1 0 "+number, 7)
		}
	}
	for _, line := range []string{
		"set k level 1 0", "set k level 1 7", "set k level 1  1", "set k level 1 1 ", "set k level 1  ", "set k level 1 1 1", "set k time 2 5 4", "set k time 2 5", "set k time 2 0 10001", "set k time 2 4  5",
		"set k kind 1 kite", "set k kind 1 a", "set k kind 1 jet ", "set k route 1 a", "set k route 1 a a", "set k route 1 a d", "set k route 1 a jet", "set k route 1 a b a b a b a b a", "set k route 1 a  b",
		"set k state 1 shut", "set k state 1 Open", "set k state 1 open\r", "set kind kind 1 set",
	} {
		checkLine(t, sampleHead, line, 7)
		checkLine(t, sampleText, strings.Replace(line, "set k ", "set kl1 ", 1), 7)
	}
	for what, value := range fitting() {
		checkLine(t, sampleHead, "set k "+wordsOfWhat[what]+" 1000000 "+value, 0)
	}
}

// What was said ahead counts, not what comes behind.
func TestChangeAheadOfWhatItNames(t *testing.T) {
	checkFault(t, "set k kind 1 jet\n"+sampleHead, fault(1, 7))
	checkFault(t, "point a 0 0\nset k route 1 a b\npoint b 1 1\n", fault(2, 7))
	checkFault(t, "kind b 1 1\npoint a 0 0\nset k route 1 a b\n", fault(3, 7))
	checkFault(t, "point jet 0 0\nset k kind 1 jet\n", fault(2, 7))
	checkParse(t, "point a 0 0\npoint b 1 1\nset k route 1 a b\n", impl.PlanBook{
		Base:    pointsOnly(impl.PlanPoint{Name: "a"}, impl.PlanPoint{Name: "b", X: 1, Y: 1}),
		Entries: []impl.PlanEntry{entry("k", field(4, 1, "a b"))}})
}

func TestSaidAgain(t *testing.T) {
	for _, line := range []string{"kind jet 1 2", "kind jet 2 2", "kind glider 1 1", "point a 0 0", "point a 9 9", "point c 9 9", "point a-1 9 9"} {
		checkLine(t, sampleHead, line, 4)
		checkLine(t, sampleText, line, 4)
	}
	for _, line := range []string{"kind a 1 2", "point jet 9 9", "kind kl1 1 2", "point kl1 9 9", "kind je 1 1", "kind jett 1 1", "point a-2 9 9"} {
		checkLine(t, sampleText, line, 0)
	}
}

func TestCellTaken(t *testing.T) {
	for _, line := range []string{"point d 0 0", "point d 3 1", "point d 3 4", "point d 15 15", "point 0 15 15"} {
		checkLine(t, sampleHead, line, 5)
	}
	for _, line := range []string{"point d 1 3", "point d 3 0", "point d 0 1", "point d 4 3", "point d 15 14"} {
		checkLine(t, sampleHead, line, 0)
	}
}

func kindLines(n int) string {
	var text strings.Builder
	for _, k := range manyKinds(n) {
		fmt.Fprintf(&text, "kind %s %d %d\n", k.Name, k.Quick, k.Slow)
	}
	return text.String()
}

func pointLines(n int) string {
	var text strings.Builder
	for _, p := range manyPoints(n) {
		fmt.Fprintf(&text, "point %s %d %d\n", p.Name, p.X, p.Y)
	}
	return text.String()
}

func flightLines(n int) string {
	var text strings.Builder
	for _, name := range flightNames(n) {
		fmt.Fprintf(&text, "set %s level 5 3\n", name)
	}
	return text.String()
}

func TestTooMany(t *testing.T) {
	for _, name := range []string{"a", "k0025", "z"} {
		checkLine(t, kindLines(impl.PlanMaxKinds-1), "kind "+name+" 1 1", 0)
		checkLine(t, kindLines(impl.PlanMaxKinds), "kind "+name+" 1 1", 6)
		checkLine(t, pointLines(impl.PlanMaxPoints-1), "point "+name+" 15 15", 0)
		checkLine(t, pointLines(impl.PlanMaxPoints), "point "+name+" 15 15", 6)
		checkLine(t, flightLines(impl.PlanMaxFlights-1), "set "+name+" level 1 1", 0)
		checkLine(t, flightLines(impl.PlanMaxFlights), "set "+name+" level 1 1", 6)
	}
	full := flightLines(impl.PlanMaxFlights)
	for _, name := range flightNames(impl.PlanMaxFlights) {
		checkLine(t, full, "set "+name+" level 9 1", 0)
		checkLine(t, full, "set "+name+" state 1 closed", 0)
	}
	checkParse(t, kindLines(impl.PlanMaxKinds)+pointLines(impl.PlanMaxPoints), impl.PlanBook{Base: impl.PlanBase{Kinds: manyKinds(impl.PlanMaxKinds), Points: manyPoints(impl.PlanMaxPoints)}})
	checkParse(t, sampleHead+full, manyEntries(impl.PlanMaxFlights))
	for n := 2; n < 5; n++ {
		checkFault(t, kindLines(impl.PlanMaxKinds+n), fault(impl.PlanMaxKinds+1, 6))
		checkFault(t, pointLines(impl.PlanMaxPoints+n), fault(impl.PlanMaxPoints+1, 6))
		checkFault(t, flightLines(impl.PlanMaxFlights+n), fault(impl.PlanMaxFlights+1, 6))
	}
}

// Which code is told of a line that has two at once.
func TestTwoCodesOfOneLine(t *testing.T) {
	kinds, points, flights := kindLines(impl.PlanMaxKinds), pointLines(impl.PlanMaxPoints), flightLines(impl.PlanMaxFlights)
	for _, c := range []struct {
		head, line string
		code       int
	}{
		{kinds, "Kind k000 2 1", 2}, {points, "points p000 0 0", 2}, {flights, "Set new level 1 9", 2},
		{sampleHead, "kind jet 2 1", 3}, {sampleHead, "kind jet 1", 3}, {sampleHead, "kind jet 1 2 ", 3}, {sampleHead, "kind jet 01 2", 3},
		{sampleHead, "point a 16 0", 3}, {sampleHead, "point a 0", 3}, {sampleHead, "point a 0 0 0", 3},
		{sampleHead, "point D 0 0", 3}, {sampleHead, "point d 0 0 ", 3}, {sampleHead, "point d 00 0", 3}, {sampleHead, "point  0 0", 3},
		{kinds, "kind new 2 1", 3}, {kinds, "kind New 1 1", 3}, {kinds, "kind k000 1 51", 3},
		{points, "point new 16 0", 3}, {points, "point New 0 0", 3}, {points, "point new 15", 3},
		{flights, "set new level 01 1", 3}, {flights, "set New level 1 1", 3}, {flights, "set new level 1 ", 3},
		{sampleHead, "set k level 01 9", 3}, {sampleHead, "set K kind 1 kite", 3}, {sampleHead, "set k stat 1 shut", 3}, {flights, "set new level 0 9", 3},
		{sampleHead, "point a 0 0", 4}, {sampleHead, "point a 3 1", 4}, {sampleHead, "point b 0 0", 4},
		{kinds, "kind k000 1 1", 4}, {kinds, "kind k005 1 2", 4}, {points, "point p000 15 15", 4}, {points, "point p015 15 15", 4}, {points, "point p000 0 0", 4}, {points, "point p000 1 0", 4},
		{points, "point new 0 0", 5}, {points, "point new 15 0", 5},
		{flights, "set new level 1 7", 7}, {flights, "set new kind 1 jet", 7}, {flights, "set new route 1 a b", 7}, {flights, "set new level 1  ", 7},
	} {
		checkLine(t, c.head, c.line, c.code)
	}
}

// The fault is the first line's, whatever the codes are.
func TestTwoLinesWithAFault(t *testing.T) {
	lines := []string{"", "nothing", "kind jet 2 1", "kind jet 1 2", "point d 0 0", "kind k9 1 1", "set k level 1 7"}
	codes := []int{2, 2, 3, 4, 5, 6, 7}
	head := sampleHead + "kind k1 1 1\nkind k2 1 1\nkind k3 1 1\nkind k4 1 1\n"
	for i, first := range lines {
		for _, second := range lines {
			checkFault(t, head+first+"\n"+second+"\n", fault(11, codes[i]))
			checkFault(t, head+first+"\nset k level 1 1\n"+second+"\nset k level 1 1", fault(11, codes[i]))
		}
	}
}

// timeLine is a line without fault of just so many bytes, its newline among them: 17 to 34.
func timeLine(size int) string {
	name, number, by := "k", "1", "0"
	for 12+len(name)+len(number)+len(by)+2 < size {
		switch {
		case len(name) < impl.PlanMaxName:
			name += "k"
		case len(number) < 7:
			number += "0"
		default:
			by = "1" + strings.Repeat("0", len(by))[:min(len(by), 4)]
		}
	}
	return fmt.Sprintf("set %s time %s 0 %s\n", name, number, by)
}

// textOfSize has no fault but, it may be, its size.
func textOfSize(size int) string {
	text := "point aaaaaaaa 0 0\npoint bbbbbbbb 1 0\n"
	long := "set abcdefgh route 1000000 aaaaaaaa bbbbbbbb aaaaaaaa bbbbbbbb aaaaaaaa bbbbbbbb aaaaaaaa bbbbbbbb\n"
	for size-len(text) >= len(long)+60 {
		text += long
	}
	for size-len(text) >= 51 {
		text += timeLine(17)
	}
	rest := size - len(text)
	return text + timeLine(17) + timeLine(rest-17)
}

func TestTextSizes(t *testing.T) {
	for _, c := range []struct {
		size int
		want impl.PlanFault
	}{{impl.PlanMaxText - 1, fault(0, 0)}, {impl.PlanMaxText, fault(0, 0)}, {impl.PlanMaxText + 1, fault(0, 1)}, {impl.PlanMaxText + 2, fault(0, 1)}} {
		text := textOfSize(c.size)
		if len(text) != c.size || strings.Count(text, "\n") > impl.PlanMaxLines {
			t.Fatalf("the text has %d bytes, not %d", len(text), c.size)
		}
		if got, f := impl.PlanParse(text); f != c.want || (len(got.Entries) == 0) != (f.Code == 1) {
			t.Errorf("%d bytes: %+v", c.size, f)
		}
		open := textOfSize(c.size + 1)[:c.size]
		if _, f := impl.PlanParse(open); f != c.want {
			t.Errorf("%d bytes without a newline at the end: %+v", c.size, f)
		}
	}
	checkFault(t, strings.Repeat("x", impl.PlanMaxText), fault(1, 2))
	checkFault(t, strings.Repeat("x", impl.PlanMaxText+1), fault(0, 1))
	checkFault(t, strings.Repeat("é", impl.PlanMaxText/2), fault(1, 2))
	checkFault(t, strings.Repeat("é", impl.PlanMaxText/2+1), fault(0, 1))
	checkFault(t, "nothing\n"+textOfSize(impl.PlanMaxText), fault(0, 1))
	checkFault(t, strings.Repeat("x", 3000000), fault(0, 1))
}

func TestTextLines(t *testing.T) {
	line := "set k level 1 2\n"
	want := impl.PlanBook{Entries: []impl.PlanEntry{entry("k", field(3, 1, "2"))}}
	for _, n := range []int{1, 2, impl.PlanMaxLines - 1, impl.PlanMaxLines} {
		checkParse(t, strings.Repeat(line, n), want)
		checkParse(t, strings.TrimSuffix(strings.Repeat(line, n), "\n"), want)
	}
	full := strings.Repeat(line, impl.PlanMaxLines)
	for _, more := range []string{"x", "\n", "kind", line, strings.TrimSuffix(line, "\n"), " ", "\n\n", line + line} {
		checkFault(t, full+more, fault(0, 1))
		checkFault(t, "nothing\n"+full, fault(0, 1))
	}
	checkFault(t, strings.Repeat("\n", impl.PlanMaxLines), fault(1, 2))
	checkFault(t, strings.Repeat("\n", impl.PlanMaxLines+1), fault(0, 1))
	checkFault(t, strings.Repeat("\n", impl.PlanMaxText), fault(0, 1))
	checkFault(t, strings.Repeat(line, impl.PlanMaxLines-1)+"nothing", fault(impl.PlanMaxLines, 2))
}

var (
	isKind  = regexp.MustCompile(`\Akind ([a-z0-9-]{1,8}) ([1-9][0-9]?) ([1-9][0-9]?)\z`)
	isPoint = regexp.MustCompile(`\Apoint ([a-z0-9-]{1,8}) (0|[1-9]|1[0-5]) (0|[1-9]|1[0-5])\z`)
)

// reader is a second writing of the table of faults: it gathers all codes that a line has.
type reader struct {
	kinds  map[string]impl.PlanKind
	points map[string]impl.PlanPoint
	said   model
}

func newReader() *reader {
	return &reader{kinds: map[string]impl.PlanKind{}, points: map[string]impl.PlanPoint{}, said: model{}}
}

func (r *reader) base() impl.PlanBase {
	var base impl.PlanBase
	for _, k := range r.kinds {
		base.Kinds = append(base.Kinds, k)
	}
	for _, p := range r.points {
		base.Points = append(base.Points, p)
	}
	slices.SortFunc(base.Kinds, func(a, b impl.PlanKind) int { return strings.Compare(a.Name, b.Name) })
	slices.SortFunc(base.Points, func(a, b impl.PlanPoint) int { return strings.Compare(a.Name, b.Name) })
	return base
}

// read takes a line in, if it gives no code.
func (r *reader) read(line string) []int {
	switch strings.Split(line, " ")[0] {
	case "kind":
		return r.readKind(line)
	case "point":
		return r.readPoint(line)
	case "set":
		return r.readChange(line)
	}
	return []int{2}
}

func (r *reader) readKind(line string) []int {
	parts := isKind.FindStringSubmatch(line)
	if parts == nil {
		return []int{3}
	}
	quick, _ := strconv.Atoi(parts[2])
	slow, _ := strconv.Atoi(parts[3])
	var codes []int
	if quick > slow || slow > 50 {
		codes = append(codes, 3)
	}
	if _, there := r.kinds[parts[1]]; there {
		codes = append(codes, 4)
	}
	if len(r.kinds) == 6 {
		codes = append(codes, 6)
	}
	if codes == nil {
		r.kinds[parts[1]] = impl.PlanKind{Name: parts[1], Quick: quick, Slow: slow}
	}
	return codes
}

func (r *reader) readPoint(line string) []int {
	parts := isPoint.FindStringSubmatch(line)
	if parts == nil {
		return []int{3}
	}
	x, _ := strconv.Atoi(parts[2])
	y, _ := strconv.Atoi(parts[3])
	var codes []int
	if _, there := r.points[parts[1]]; there {
		codes = append(codes, 4)
	}
	for _, p := range r.points {
		if p.X == x && p.Y == y {
			codes = append(codes, 5)
		}
	}
	if len(r.points) == 16 {
		codes = append(codes, 6)
	}
	if codes == nil {
		r.points[parts[1]] = impl.PlanPoint{Name: parts[1], X: x, Y: y}
	}
	return codes
}

func (r *reader) readChange(line string) []int {
	if !isForm.MatchString(line) {
		return []int{3}
	}
	c, _ := impl.PlanRead(line)
	var codes []int
	flights := map[string]bool{}
	for at := range r.said {
		flights[at.flight] = true
	}
	if !flights[c.Flight] && len(flights) == 12 {
		codes = append(codes, 6)
	}
	if !impl.PlanChangeOk(r.base(), c) {
		codes = append(codes, 7)
	}
	if codes == nil {
		r.said.take(c)
	}
	return codes
}

func parsed(text string) (impl.PlanBook, impl.PlanFault) {
	lines := strings.Split(text, "\n")
	if lines[len(lines)-1] == "" {
		lines = lines[:len(lines)-1]
	}
	if len(text) > 10000 || len(lines) > 200 {
		return impl.PlanBook{}, fault(0, 1)
	}
	r := newReader()
	for i, line := range lines {
		codes := r.read(line)
		for _, code := range []int{2, 3, 4, 5, 7, 6} {
			if slices.Contains(codes, code) {
				return impl.PlanBook{}, fault(i+1, code)
			}
		}
	}
	return r.said.book(r.base()), impl.PlanFault{}
}

func randomLine(r *rand.Rand) string {
	name := func(of string) string { return of + strconv.Itoa(r.Intn(9)) }
	switch r.Intn(8) {
	case 0:
		return fmt.Sprintf("kind %s %d %d", name("k"), 1+r.Intn(3), 3+r.Intn(3))
	case 1, 2:
		return fmt.Sprintf("point %s%d %d %d", name("p"), r.Intn(3), 8+r.Intn(8), 10+r.Intn(6))
	case 3:
		return fmt.Sprintf("set %s kind %d %s", name("f"), 1+r.Intn(3), name("k"))
	case 4:
		return fmt.Sprintf("set %s%d route %d %s%d %s%d", name("f"), r.Intn(2), 1+r.Intn(3), name("p"), r.Intn(3), name("p"), r.Intn(3))
	case 5:
		return fmt.Sprintf("set %s time %d %d %d", name("f"), 1+r.Intn(3), r.Intn(10), 9+r.Intn(10))
	case 6:
		return fmt.Sprintf("set %s level %d %d", name("f"), 1+r.Intn(3), 1+r.Intn(6))
	}
	return fmt.Sprintf("set %s state %d %s", name("f"), 1+r.Intn(3), []string{"open", "closed"}[r.Intn(2)])
}

// spoilt is a line with one byte put in, taken out or changed.
func spoilt(r *rand.Rand, line string) string {
	const bytes = " \n0129akz-sxK\t\xff"
	at, b := r.Intn(len(line)), string(bytes[r.Intn(len(bytes))])
	switch r.Intn(3) {
	case 0:
		return line[:at] + b + line[at:]
	case 1:
		return line[:at] + line[at+1:]
	}
	return line[:at] + b + line[at+1:]
}

// checkText holds a text against the second writing, and what promise 5 says of it.
func checkText(t *testing.T, text string) impl.PlanFault {
	t.Helper()
	got, f := impl.PlanParse(text)
	want, wantFault := parsed(text)
	if f != wantFault || !same(got, want) {
		t.Fatalf("PlanParse(%q) = %+v, %+v; not %+v, %+v", text, got, f, want, wantFault)
	}
	if !impl.PlanBookOk(got) {
		t.Fatalf("PlanParse(%q) = %+v: not ok", text, got)
	}
	if back, again := impl.PlanParse(impl.PlanPrint(got)); again != fault(0, 0) || !same(back, got) {
		t.Fatalf("PlanParse of PlanPrint(%+v) = %+v, %+v", got, back, again)
	}
	if f.Line > 0 {
		ahead := strings.Join(strings.Split(text, "\n")[:f.Line-1], "\n")
		if _, early := impl.PlanParse(ahead); early != fault(0, 0) {
			t.Fatalf("PlanParse(%q): %+v, but it is ahead of %+v", ahead, early, f)
		}
	}
	return f
}

// linesWithoutFault are at most so many.
func linesWithoutFault(r *rand.Rand, most int) []string {
	reader := newReader()
	var lines []string
	for range most {
		if line := randomLine(r); len(reader.read(line)) == 0 {
			lines = append(lines, line)
		}
	}
	return lines
}

func TestParseAgainstASecondWriting(t *testing.T) {
	r := rand.New(rand.NewSource(12))
	seen := map[int]int{}
	for range 1500 {
		lines := linesWithoutFault(r, r.Intn(150))
		switch r.Intn(3) {
		case 0:
			lines = append(lines, randomLine(r), randomLine(r), randomLine(r), randomLine(r))
		case 1:
			lines = slices.Insert(lines, r.Intn(len(lines)+1), spoilt(r, randomLine(r)))
		}
		text := strings.Join(lines, "\n") + []string{"", "\n"}[r.Intn(2)]
		seen[checkText(t, text).Code]++
	}
	for _, code := range []int{0, 2, 3, 4, 5, 6, 7} {
		if seen[code] < 20 {
			t.Errorf("code %d was met %d times", code, seen[code])
		}
	}
}

// Each text that is one byte away from one without fault.
func TestParseOneByteAway(t *testing.T) {
	text := "kind jet 1 2\npoint a 0 0\npoint b 3 1\nset k1 route 12 a b\nset k1 kind 1 jet\n"
	for at := 0; at <= len(text); at++ {
		if at < len(text) {
			checkText(t, text[:at]+text[at+1:])
		}
		for c := range 256 {
			b := string([]byte{byte(c)})
			checkText(t, text[:at]+b+text[at:])
			if at < len(text) {
				checkText(t, text[:at]+b+text[at+1:])
			}
		}
	}
}

func FuzzParse(f *testing.F) {
	f.Add(sampleText)
	f.Add("kind jet 1 2\nset k kind 1 jet\n\n")
	f.Fuzz(func(t *testing.T, text string) { checkText(t, text) })
}

func TestPrintOrdinary(t *testing.T) {
	for _, c := range []struct {
		book impl.PlanBook
		want string
	}{
		{impl.PlanBook{}, ""},
		{impl.PlanBook{Base: impl.PlanBase{Kinds: []impl.PlanKind{}}, Entries: []impl.PlanEntry{}}, ""},
		{sampleBook(), sampleText},
		{kindsBook(impl.PlanKind{Name: "-", Quick: 10, Slow: 50}), "kind - 10 50\n"},
		{impl.PlanBook{Base: pointsOnly(impl.PlanPoint{Name: "p", X: 15, Y: 10})}, "point p 15 10\n"},
		{impl.PlanBook{Entries: []impl.PlanEntry{entry("k", field(3, 1000000, "6"))}}, "set k level 1000000 6\n"},
		{manyEntries(impl.PlanMaxFlights), impl.PlanPrint(bookWith()) + flightLines(impl.PlanMaxFlights)},
		{impl.PlanBook{Base: impl.PlanBase{Kinds: manyKinds(6), Points: manyPoints(16)}}, kindLines(6) + pointLines(16)},
	} {
		if got := impl.PlanPrint(c.book); got != c.want {
			t.Errorf("PlanPrint(%+v) = %q", c.book, got)
		}
	}
}

func TestPrintOfABookThatIsNotOk(t *testing.T) {
	for name, broken := range brokenBooks() {
		if got := impl.PlanPrint(broken); got != "" {
			t.Errorf("%s: %q", name, got)
		}
	}
}

// Promise 5: PlanParse of PlanPrint is the book.
func TestParseOfPrintIsTheBook(t *testing.T) {
	r := rand.New(rand.NewSource(13))
	for range 500 {
		book := randomBook(r, flightNames(1+r.Intn(impl.PlanMaxFlights)))
		checkParse(t, impl.PlanPrint(book), book)
	}
	checkParse(t, impl.PlanPrint(longestBook()), longestBook())
}

// longestBook has the longest text that a book that is ok can have.
func longestBook() impl.PlanBook {
	var book impl.PlanBook
	for i := range impl.PlanMaxKinds {
		book.Base.Kinds = append(book.Base.Kinds, impl.PlanKind{Name: fmt.Sprintf("kind%04d", i), Quick: 50, Slow: 50})
	}
	var names []string
	for i := range impl.PlanMaxPoints {
		names = append(names, fmt.Sprintf("point%03d", i))
		book.Base.Points = append(book.Base.Points, impl.PlanPoint{Name: names[i], X: 15 - i%6, Y: 15 - i/6})
	}
	for i := range impl.PlanMaxFlights {
		book.Entries = append(book.Entries, entry(fmt.Sprintf("flight%02d", i), field(1, 1000000, "kind0005"), field(2, 1000000, "10000 10000"), field(3, 1000000, "6"), field(4, 1000000, strings.Join(names[:8], " ")), field(5, 1000000, "closed")))
	}
	return book
}

func TestTextsAreNewMemory(t *testing.T) {
	text := strings.Clone(sampleText)
	got, _ := impl.PlanParse(text)
	again, _ := impl.PlanParse(text)
	checkFresh(t, "PlanParse", []any{got}, text, again)
	for i, line := range []string{"kind new 1 1\n", "point new 9 9\n", "set new level 1 1\n"} {
		longer := text + line
		last, f := impl.PlanParse(longer)
		checkFresh(t, fmt.Sprint("PlanParse, last line ", i), []any{last, f}, longer, got)
	}
	one := "set kl1 level 1 2"
	single, _ := impl.PlanParse(one)
	checkFresh(t, "PlanParse of one line", []any{single}, one)
	if text != sampleText {
		t.Error("a text that was handed in is not as it was")
	}
	book := sampleBook()
	before := whole(book)
	printed := impl.PlanPrint(book)
	checkFresh(t, "PlanPrint", []any{printed}, book)
	if whole(book) != before {
		t.Error("PlanPrint wrote into its book")
	}
}

// Writing into one answer changes no other one.
func TestParsedBooksStandApart(t *testing.T) {
	first, _ := impl.PlanParse(sampleText)
	second, _ := impl.PlanParse(sampleText)
	first.Base.Kinds[0].Name, first.Base.Points[0].X = "x", 9
	first.Entries[1].Fields[0].Value, first.Entries[0].Name = "x", "x"
	_ = append(first.Entries[1].Fields[:1], field(9, 9, "x"))
	if !same(second, sampleBook()) {
		t.Errorf("%+v", second)
	}
}
