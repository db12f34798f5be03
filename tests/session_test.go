package tests

import (
	"fmt"
	"math/rand"
	"regexp"
	"slices"
	"strconv"
	"strings"
	"testing"

	"loop.example/lapplan/impl"
)

// turn is a line of a session, and the answer to it.
type turn struct{ line, answer string }

// documentsSession is the example of chapter 9.
func documentsSession() []turn {
	return []turn{
		{"kind jet 1 2", "ok"},
		{"point a 0 0", "ok"},
		{"point b 3 1", "ok"},
		{"point c 3 4", "ok"},
		{"set kl1 route 2 a b c", "ok"},
		{"set kl1 time 1 100 105", "ok"},
		{"set kl1 kind 1 jet", "ok"},
		{"flights", "none"},
		{"set kl1 level 1 3", "ok"},
		{"flights", "kl1"},
		{"path kl1", "0,0,0-0@100-105 1,0,0-1@101-107 2,1,1-2@102-109 3,1,2-3@103-111 3,2,2-3@104-113 3,3,1-2@105-115 3,4,0-1@106-117 end@107-119"},
		{"over kl1 b", "103-112"},
		{"set kl1 route 1 a c", "ok"},
		{"set kl1 route 2 a b", "ok"},
		{"over kl1 c", "106-118"},
		{"set kl1 level 7 2", "ok"},
		{"set kl1 level 3 1", "ok"},
		{"set kl1 state 1 closed", "ok"},
		{"path kl1", "code 2"},
		{"set kl1 time 2 5 4", "it does not fit"},
		{"set kl1  time 2 4 5", "not as it is written"},
		{"kind jet 2 2", "said again"},
	}
}

func written(turns []turn) (text, answers string) {
	for _, s := range turns {
		text += s.line + "\n"
		answers += s.answer + "\n"
	}
	return text, answers
}

func checkSession(t *testing.T, text, want string) {
	t.Helper()
	if got := impl.PlanSession(text); got != want {
		t.Errorf("PlanSession(%.3000q) = %.3000q, not %.3000q", text, got, want)
	}
}

// checkTurns looks at each beginning of a session, with a newline at its end and without.
func checkTurns(t *testing.T, turns ...turn) {
	t.Helper()
	for n := range len(turns) + 1 {
		text, want := written(turns[:n])
		checkSession(t, text, want)
		if n > 0 && turns[n-1].line != "" {
			checkSession(t, strings.TrimSuffix(text, "\n"), want)
		}
	}
}

// taken are lines that each get ok.
func taken(text string) []turn {
	var turns []turn
	for line := range strings.Lines(text) {
		turns = append(turns, turn{strings.TrimSuffix(line, "\n"), "ok"})
	}
	return turns
}

// behind is a session with lines that get ok, and then what else is said.
func behind(text string, more ...turn) []turn {
	return append(taken(text), more...)
}

// saidLines says all of a flight.
func saidLines(name, kind, time, level, route string) string {
	return fmt.Sprintf("set %[1]s kind 1 %[2]s\nset %[1]s time 1 %[3]s\nset %[1]s level 1 %[4]s\nset %[1]s route 1 %[5]s\n", name, kind, time, level, route)
}

// wayHead is wayBase as lines.
func wayHead() string {
	return impl.PlanPrint(impl.PlanBook{Base: wayBase()})
}

func TestSessionOfTheDocument(t *testing.T) {
	checkTurns(t, documentsSession()...)
}

func TestSessionFlights(t *testing.T) {
	one := func(name string) string { return saidLines(name, "jet", "100 105", "3", "a b c") }
	checkTurns(t, turn{"flights", "none"})
	checkTurns(t, behind(sampleHead, turn{"flights", "none"})...)
	checkTurns(t, behind(sampleHead+one("k"), turn{"flights", "k"})...)
	checkTurns(t, behind(sampleHead+one("m")+one("k")+one("-")+one("kk"), turn{"flights", "- k kk m"})...)
	checkTurns(t, behind(sampleHead+one("none"), turn{"flights", "none"}, turn{"path none", "0,0,0-0@100-105 1,0,0-1@101-107 2,1,1-2@102-109 3,1,2-3@103-111 3,2,2-3@104-113 3,3,1-2@105-115 3,4,0-1@106-117 end@107-119"})...)
	checkTurns(t, behind(sampleHead+one("k")+"set half level 1 3\n"+one("z")+"set k state 1 closed\n",
		turn{"flights", "z"},
		turn{"set k state 2 open", "ok"}, turn{"flights", "k z"},
		turn{"set k state 1 closed", "ok"}, turn{"flights", "k z"},
		turn{"set z state 9 closed", "ok"}, turn{"flights", "k"},
		turn{"set k state 2 closed", "ok"}, turn{"flights", "k"},
		turn{"set k state 3 closed", "ok"}, turn{"flights", "none"})...)
	var all string
	for _, name := range flightNames(impl.PlanMaxFlights) {
		all += one(name)
	}
	checkSession(t, sampleHead+all+"flights\nset new level 1 1\nflights\n",
		strings.Repeat("ok\n", 6+4*12)+strings.Join(flightNames(12), " ")+"\ntoo many\n"+strings.Join(flightNames(12), " ")+"\n")
}

// A flight that stands and has no path is told among the flights.
func TestSessionPaths(t *testing.T) {
	checkTurns(t, behind(sampleHead+saidLines("k", "jet", "0 0", "6", "a b")+saidLines("m", "glider", "7 7", "6", "b c"),
		turn{"path k", "0,0,0-0@0-0 1,0,0-1@1-2 2,1,1-1@2-4 3,1,0-1@3-6 end@4-8"},
		turn{"path m", "3,1,0-0@7-7 3,2,0-1@10-57 3,3,1-1@13-107 3,4,0-1@16-157 end@19-207"},
		turn{"path l", "code 2"},
		turn{"set k route 2 b a", "ok"},
		turn{"path k", "3,1,0-0@0-0 2,1,0-1@1-2 1,0,1-1@2-4 0,0,0-1@3-6 end@4-8"})...)
	checkTurns(t, behind(wayHead()+saidLines("far", "jet", "0 0", "6", "sw se ne u5")+saidLines("late", "jet", "0 9993", "1", "u4 u7")+saidLines("both", "jet", "0 10000", "1", "sw se ne u5")+saidLines("good", "jet", "9992 9992", "1", "u7 u4"),
		turn{"flights", "both far good late"},
		turn{"path far", "code 3"}, turn{"path late", "code 4"}, turn{"path both", "code 3"},
		turn{"path good", "7,15,0-0@9992-9992 6,15,0-1@9993-9994 5,15,1-1@9994-9996 4,15,0-1@9995-9998 end@9996-10000"},
		turn{"set far state 1 closed", "ok"}, turn{"path far", "code 2"},
		turn{"set late time 2 0 9992", "ok"}, turn{"path late", "4,15,0-0@0-9992 5,15,0-1@1-9994 6,15,1-1@2-9996 7,15,0-1@3-9998 end@4-10000"},
		turn{"flights", "both good late"})...)
	for what, word := range wordsOfWhat[1:5] {
		lines := strings.SplitAfter(saidLines("k", "jet", "0 0", "6", "a b"), "\n")
		checkTurns(t, behind(sampleHead+strings.Join(slices.Delete(slices.Clone(lines), what, what+1), ""), turn{"path k", "code 2"}, turn{"flights", "none"}, turn{"over k a", "never"},
			turn{strings.TrimSuffix(lines[what], "\n"), "ok"}, turn{"flights", "k"}, turn{"over k a", "0-1"})...)
		if !strings.HasPrefix(lines[what], "set k "+word+" ") {
			t.Fatalf("%q does not say %s", lines[what], word)
		}
	}
}

func TestSessionOfTheLongestPath(t *testing.T) {
	text := wayHead() + saidLines("k", "slow", "0 8000", "6", "sw se ne u6") + "path k\n"
	book := wayBook(wayBase(), "slow", "0 8000", "6", "sw se ne u6")
	path, _ := pathWritten(book.Base, impl.PlanAll(book)[0])
	answers := strings.Split(impl.PlanSession(text), "\n")
	last := answers[len(answers)-2]
	if strings.Count(last, " ") != impl.PlanMaxSteps || !strings.HasSuffix(last, " end@120-10000") || !same(pathFrom(t, last), path) {
		t.Errorf("%q", last)
	}
}

func TestSessionOver(t *testing.T) {
	checkTurns(t, behind(sampleHead+"point m 3 3\npoint n 1 1\n"+saidLines("k", "jet", "100 105", "3", "a b c"),
		turn{"over k a", "100-106"}, turn{"over k b", "103-112"}, turn{"over k c", "106-118"}, turn{"over k m", "105-116"},
		turn{"over k n", "never"}, turn{"over k a-1", "never"}, turn{"over k d", "never"}, turn{"over k jet", "never"},
		turn{"over l a", "never"}, turn{"over a k", "never"},
		turn{"point d 3 2", "ok"}, turn{"over k d", "104-114"},
		turn{"set k state 1 closed", "ok"}, turn{"over k a", "never"},
		turn{"set k state 2 open", "ok"}, turn{"over k a", "100-106"},
		turn{"set k time 2 0 0", "ok"}, turn{"over k a", "0-1"},
		turn{"set k time 3 0 10000", "ok"}, turn{"over k a", "never"}, turn{"path k", "code 4"})...)
	checkTurns(t, behind("kind s 1 1\npoint p 0 0\npoint q 1 0\n"+saidLines("k", "s", "0 0", "1", "p q"), turn{"over k p", "0-0"}, turn{"over k q", "1-1"})...)
	checkTurns(t, behind(wayHead()+saidLines("k", "jet", "0 0", "6", "sw se ne u5"), turn{"over k sw", "never"}, turn{"path k", "code 3"})...)
}

// Each fault has its words, and the book is behind it what it was ahead of it.
func TestSessionFaults(t *testing.T) {
	stands := sampleHead + saidLines("k", "jet", "0 0", "6", "a b")
	const path = "0,0,0-0@0-0 1,0,0-1@1-2 2,1,1-1@2-4 3,1,0-1@3-6 end@4-8"
	for _, c := range []struct {
		head   string
		line   string
		answer string
	}{
		{stands, "", "no such line"}, {stands, "x", "no such line"}, {stands, "kinds k 1 1", "no such line"}, {stands, " set k level 2 1", "no such line"}, {stands, "Set k level 2 1", "no such line"},
		{stands, "kind k 1", "not as it is written"}, {stands, "kind k 2 1", "not as it is written"}, {stands, "kind k 1 51", "not as it is written"}, {stands, "point p 16 0", "not as it is written"}, {stands, "point p  1 1", "not as it is written"},
		{stands, "set", "not as it is written"}, {stands, "set k level 0 1", "not as it is written"}, {stands, "set k level 1000001 1", "not as it is written"}, {stands, "set K level 2 1", "not as it is written"}, {stands, "set k level 2 ", "not as it is written"},
		{stands, "kind jet 5 6", "said again"}, {stands, "point a 9 9", "said again"}, {stands, "point b 0 0", "said again"},
		{stands, "point d 0 0", "taken already"}, {stands, "point d 15 15", "taken already"},
		{stands + "kind k1 1 1\nkind k2 1 1\nkind k3 1 1\nkind k4 1 1\n", "kind k5 1 1", "too many"},
		{stands, "set k level 2 7", "it does not fit"}, {stands, "set k kind 2 kite", "it does not fit"}, {stands, "set k route 2 a a", "it does not fit"}, {stands, "set k route 2 a d", "it does not fit"}, {stands, "set k time 2 5 4", "it does not fit"}, {stands, "set k state 2 shut", "it does not fit"}, {stands, "set new level 2 7", "it does not fit"},
	} {
		checkTurns(t, behind(c.head, turn{c.line, c.answer}, turn{"flights", "k"}, turn{"path k", path}, turn{c.line, c.answer}, turn{"set k level 2 1", "ok"}, turn{"over k b", "3-7"}, turn{c.line, c.answer})...)
	}
	for line, answer := range map[string]string{"point new 0 0": "taken already", "point p000 0 0": "said again", "point new 15 15": "too many", "point new 16 15": "not as it is written"} {
		checkTurns(t, behind(pointLines(impl.PlanMaxPoints), turn{line, answer}, turn{"set k route 1 p000 new", "it does not fit"}, turn{line, answer}, turn{"set k route 1 p000 p015", "ok"})...)
	}
	for line, answer := range map[string]string{"set new level 1 1": "too many", "set new level 1 7": "it does not fit", "set new level 01 1": "not as it is written", "set f00 level 1 1": "ok"} {
		checkTurns(t, behind(flightLines(impl.PlanMaxFlights), turn{line, answer}, turn{"set " + flightNames(12)[11] + " level 9 1", "ok"}, turn{line, answer}, turn{"kind new 1 1", "ok"})...)
	}
}

// A line with a fault says nothing of what its parts would: not the flight, not the name, not the cell.
func TestSessionBookStaysBehindAFault(t *testing.T) {
	checkTurns(t,
		turn{"kind jet 2 1", "not as it is written"}, turn{"kind jet 1 2", "ok"},
		turn{"point a 0 16", "not as it is written"}, turn{"point a 0 0", "ok"},
		turn{"point b 0 0", "taken already"}, turn{"point b 0 1", "ok"},
		turn{"set k route 5 a c", "it does not fit"}, turn{"set k route 4 a b", "ok"}, turn{"point c 5 5", "ok"}, turn{"set k route 5 a c", "ok"},
		turn{"set k level 9 7", "it does not fit"}, turn{"set k level 8 2", "ok"}, turn{"set k kind 1 jet", "ok"}, turn{"set k time 1 0 0", "ok"},
		turn{"over k c", "5-11"}, turn{"over k b", "never"})
	var turns []turn
	for _, name := range flightNames(impl.PlanMaxFlights) {
		turns = append(turns, turn{"set " + name + "x level 1 7", "it does not fit"}, turn{"set " + name + " level 1 6", "ok"}, turn{"set " + name + "y level 0 6", "not as it is written"})
	}
	checkTurns(t, append(turns, turn{"set new level 1 6", "too many"})...)
}

func TestSessionLinesSaidTwice(t *testing.T) {
	checkTurns(t,
		turn{"kind jet 1 2", "ok"}, turn{"kind jet 1 2", "said again"}, turn{"point a 0 0", "ok"}, turn{"point a 0 0", "said again"}, turn{"point b 2 0", "ok"},
		turn{"set k level 1 3", "ok"}, turn{"set k level 1 3", "ok"}, turn{"set k kind 1 jet", "ok"}, turn{"set k kind 1 jet", "ok"},
		turn{"set k time 1 5 6", "ok"}, turn{"set k time 1 5 6", "ok"}, turn{"set k route 1 a b", "ok"}, turn{"set k route 1 a b", "ok"},
		turn{"flights", "k"}, turn{"flights", "k"}, turn{"path k", "0,0,0-0@5-6 1,0,0-1@6-8 2,0,0-1@7-10 end@8-12"}, turn{"path k", "0,0,0-0@5-6 1,0,0-1@6-8 2,0,0-1@7-10 end@8-12"},
		turn{"over k b", "7-11"}, turn{"over k b", "7-11"}, turn{"over k c", "never"}, turn{"over k c", "never"}, turn{"path z", "code 2"}, turn{"path z", "code 2"}, turn{"", "no such line"}, turn{"", "no such line"})
}

func TestSessionQuestionsAheadAndBehind(t *testing.T) {
	asked := func(flights, path, over string) []turn {
		return []turn{{"flights", flights}, {"path kl1", path}, {"over kl1 b", over}}
	}
	turns := slices.Concat(asked("none", "code 2", "never"), documentsSession()[:12], asked("kl1", documentsSession()[10].answer, "103-112"))
	checkTurns(t, turns...)
	checkTurns(t, asked("none", "code 2", "never")...)
}

func TestSessionEmptyTextAndLines(t *testing.T) {
	for text, want := range map[string]string{
		"": "", "\n": "no such line\n", "\n\n": "no such line\nno such line\n", "\n\n\n": "no such line\nno such line\nno such line\n",
		"flights": "none\n", "flights\n": "none\n", "flights\n\n": "none\nno such line\n", "\nflights": "no such line\nnone\n", "\nflights\n": "no such line\nnone\n",
		"flights\nflights": "none\nnone\n", "flights\n\nflights\n": "none\nno such line\nnone\n",
		"kind jet 1 2": "ok\n", "kind jet 1 2\n": "ok\n", "kind jet 1 2\n\nkind jet 1 2": "ok\nno such line\nsaid again\n",
		" ": "no such line\n", " \n": "no such line\n", "  ": "no such line\n", "flights\n ": "none\nno such line\n",
		"flights\r\nflights\r\n": "no such line\nno such line\n", "flights\rflights": "no such line\n", "kind jet 1 2\r\n": "not as it is written\n", "set k state 1 open\r\n": "it does not fit\n",
	} {
		checkSession(t, text, want)
	}
}

// What is only nearly a question is a line of a text, and none that a text has.
func nearlyQuestions() []string {
	lines := []string{
		"flights ", " flights", "flights  ", "flights k", "flights k a", "flights none", "flight", "flightss", "Flights", "FLIGHTS", "flights\t", "\tflights", "flights.", "flights?", "flights\x00", "\xffflights", "flights\x80", "flıghts", "ﬂights", "\ufeffflights",
		"path", "path ", "path  ", " path k", "path  k", "path k ", "path k k", "path k a", "paths k", "pat k", "Path k", "PATH k", "pAth k", "path K", "path\tk", "path k\t", "path k\x00", "path k\xff", "path k,m", "path k.", "path \"k\"", "path abcdefghi", "pathk", "path NAME", "path k\u00a0", "path\u00a0k", "path é",
		"over", "over ", "over k", "over k ", "over  ", " over k a", "over  k a", "over k  a", "over k a ", "over k a b", "over k a  ", "over a", "overs k a", "ove k a", "Over k a", "OVER k a", "over K a", "over k A", "over k\ta", "over k a\t", "over k,a", "over k a\x00", "over k \xff", "over k\xff a", "over k abcdefghi", "over abcdefghi a", "overk a", "over NAME POINT",
		"none", "ok", "end", "code 2", "never", "too long", "no such line", "print", "level k", "news k", "state k", "route k a",
	}
	for _, name := range badNames() {
		if !strings.Contains(name, "\n") {
			lines = append(lines, "path "+name, "over "+name+" a", "over k "+name)
		}
	}
	return lines
}

func TestSessionLinesThatAreNearlyQuestions(t *testing.T) {
	stands := sampleHead + saidLines("k", "jet", "0 0", "6", "a b")
	for _, line := range nearlyQuestions() {
		checkSession(t, line, "no such line\n")
		checkSession(t, stands+line+"\nflights\nover k a\n", strings.Repeat("ok\n", 10)+"no such line\nk\n0-1\n")
	}
	for _, name := range goodNames() {
		checkSession(t, "path "+name+"\nover "+name+" a\nover k "+name, "code 2\nnever\nnever\n")
		said := sampleHead + saidLines(name, "jet", "0 0", "6", "a b") + "flights\npath " + name + "\nover " + name + " b\n"
		checkSession(t, said, strings.Repeat("ok\n", 10)+name+"\n0,0,0-0@0-0 1,0,0-1@1-2 2,1,1-1@2-4 3,1,0-1@3-6 end@4-8\n3-7\n")
		place := "kind jet 1 2\npoint " + name + " 5 5\npoint x 5 6\n" + saidLines("k", "jet", "0 0", "6", "x "+name) + "over k " + name + "\n"
		checkSession(t, place, strings.Repeat("ok\n", 7)+"1-3\n")
	}
}

// Words of the table may be names: of flights, of kinds, of points.
func TestSessionNamesThatAreWords(t *testing.T) {
	for _, name := range []string{"flights", "path", "over", "kind", "point", "set", "none", "end", "never", "ok"} {
		text := "kind " + name + " 1 1\npoint " + name + " 0 0\npoint a 1 0\n" + saidLines(name, name, "0 0", "1", name+" a") + "flights\npath " + name + "\nover " + name + " " + name + "\n"
		checkSession(t, text, strings.Repeat("ok\n", 7)+name+"\n0,0,0-0@0-0 1,0,0-0@1-1 end@2-2\n0-0\n")
	}
}

func TestSessionBytes(t *testing.T) {
	for c := range 256 {
		b := string([]byte{byte(c)})
		want := "no such line\n"
		checkSession(t, b, want)
		checkSession(t, b+"\nflights\n", want+strings.Repeat("no such line\n", strings.Count(b, "\n"))+"none\n")
		if b != "\n" && b != " " {
			checkSession(t, "set k state 1 open"+b+"\n"+b+b, "it does not fit\n"+want)
			checkSession(t, "kind k"+b+" 1 1", map[bool]string{true: "ok\n", false: "not as it is written\n"}[slices.Contains([]byte("abcdefghijklmnopqrstuvwxyz0123456789-"), byte(c))])
		}
	}
	for _, text := range []string{"\x00", "\xff\xfe", "\xc3\x28", "é", "日本", "\xed\xa0\x80", strings.Repeat("\x00", impl.PlanMaxText), strings.Repeat("\xff", impl.PlanMaxText), strings.Repeat(" ", impl.PlanMaxText)} {
		checkSession(t, text, "no such line\n")
	}
	checkSession(t, "\x00\n\xff\n\x80\nflights\n\x7f", "no such line\nno such line\nno such line\nnone\nno such line\n")
}

// sessionOfSize has a question at its end, and is otherwise lines that get ok.
func sessionOfSize(size int) string {
	const end = "flights\n"
	return textOfSize(size-len(end)) + end
}

func TestSessionSizes(t *testing.T) {
	for size := impl.PlanMaxText - 2; size <= impl.PlanMaxText+2; size++ {
		text := sessionOfSize(size)
		lines := strings.Count(text, "\n")
		if len(text) != size || lines > impl.PlanMaxLines {
			t.Fatalf("the text has %d bytes, not %d, and %d lines", len(text), size, lines)
		}
		want := strings.Repeat("ok\n", lines-1) + "none\n"
		if size > impl.PlanMaxText {
			want = "too long\n"
		}
		checkSession(t, text, want)
		open := strings.TrimSuffix(sessionOfSize(size+1), "\n")
		if size <= impl.PlanMaxText {
			want = strings.Repeat("ok\n", strings.Count(open, "\n")) + "none\n"
		}
		checkSession(t, open, want)
	}
	checkSession(t, strings.Repeat("x", impl.PlanMaxText), "no such line\n")
	checkSession(t, strings.Repeat("x", impl.PlanMaxText-1)+"\n", "no such line\n")
	checkSession(t, strings.Repeat("x", impl.PlanMaxText)+"\n", "too long\n")
	checkSession(t, strings.Repeat("x", impl.PlanMaxText+1), "too long\n")
	checkSession(t, strings.Repeat("é", impl.PlanMaxText/2), "no such line\n")
	checkSession(t, strings.Repeat("é", impl.PlanMaxText/2)+"x", "too long\n")
	checkSession(t, strings.Repeat("flights\n", 1000000), "too long\n")
	checkSession(t, strings.Repeat("x", 3000000), "too long\n")
}

func TestSessionLines(t *testing.T) {
	for _, line := range []string{"flights", "path k", "over k a", "", "set k state 1 open", "kind k 2 1"} {
		answer := strings.TrimSuffix(impl.PlanSession(line+"\n"), "\n")
		for _, n := range []int{impl.PlanMaxLines - 1, impl.PlanMaxLines} {
			checkSession(t, strings.Repeat(line+"\n", n), strings.Repeat(answer+"\n", n))
			if line != "" {
				checkSession(t, strings.TrimSuffix(strings.Repeat(line+"\n", n), "\n"), strings.Repeat(answer+"\n", n))
			}
		}
		full := strings.Repeat(line+"\n", impl.PlanMaxLines)
		for _, more := range []string{"\n", "x", " ", "flights", "flights\n", "\n\n", "set k state 1 open\n", "too long"} {
			checkSession(t, full+more, "too long\n")
			checkSession(t, strings.TrimSuffix(more, "\n")+"\n"+full, "too long\n")
		}
	}
	checkSession(t, strings.Repeat("\n", impl.PlanMaxText), "too long\n")
	checkSession(t, strings.Repeat("\n", impl.PlanMaxText+1), "too long\n")
}

// Both limits met at once, one passed and the other met, and both passed.
func TestSessionSizeAndLinesAtOnce(t *testing.T) {
	of := func(size, lines int) string {
		long := strings.Repeat("x", 49) + "\n"
		text := strings.Repeat(long, lines-1)
		return text + strings.Repeat("x", size-len(text)-1) + "\n"
	}
	for _, c := range []struct {
		size, lines int
		tooLong     bool
	}{{10000, 200, false}, {10001, 200, true}, {10000, 201, true}, {10051, 201, true}, {10000, 199, false}, {10001, 199, true}, {9999, 200, false}, {10060, 201, true}} {
		var text string
		if c.size > 50*(c.lines-1) {
			text = of(c.size, c.lines)
		} else {
			text = of(c.size-10, c.lines-10) + strings.Repeat("\n", 10)
		}
		if len(text) != c.size || strings.Count(text, "\n") != c.lines {
			t.Fatalf("%d bytes and %d lines, not %+v", len(text), strings.Count(text, "\n"), c)
		}
		want := strings.Repeat("no such line\n", c.lines)
		if c.tooLong {
			want = "too long\n"
		}
		checkSession(t, text, want)
	}
}

var (
	isPath = regexp.MustCompile(`\Apath ([a-z0-9-]{1,8})\z`)
	isOver = regexp.MustCompile(`\Aover ([a-z0-9-]{1,8}) ([a-z0-9-]{1,8})\z`)
)

// answered is a second writing of a session's table, for one line.
func (r *reader) answered(line string) string {
	base := r.base()
	if line == "flights" {
		var names []string
		for _, name := range r.said.flights() {
			if _, stands := flightOf(r.said, base, name); stands {
				names = append(names, name)
			}
		}
		return strings.Join(append(names, []string{"none"}[min(len(names), 1):]...), " ")
	}
	if parts := isPath.FindStringSubmatch(line); parts != nil {
		return r.pathAnswered(base, parts[1])
	}
	if parts := isOver.FindStringSubmatch(line); parts != nil {
		return r.overAnswered(base, parts[1], parts[2])
	}
	codes := r.read(line)
	for _, c := range []struct {
		code  int
		words string
	}{{2, "no such line"}, {3, "not as it is written"}, {4, "said again"}, {5, "taken already"}, {7, "it does not fit"}, {6, "too many"}} {
		if slices.Contains(codes, c.code) {
			return c.words
		}
	}
	return "ok"
}

func (r *reader) pathAnswered(base impl.PlanBase, name string) string {
	flight, stands := flightOf(r.said, base, name)
	if !stands {
		return "code 2"
	}
	path, code := pathWritten(base, flight)
	if code != 0 {
		return "code " + strconv.Itoa(code)
	}
	var out strings.Builder
	for _, s := range path.Steps {
		fmt.Fprintf(&out, "%d,%d,%d-%d@%d-%d ", s.X, s.Y, s.Low, s.High, s.From, s.By)
	}
	return out.String() + fmt.Sprintf("end@%d-%d", path.From, path.By)
}

func (r *reader) overAnswered(base impl.PlanBase, name, at string) string {
	flight, stands := flightOf(r.said, base, name)
	p, there := r.points[at]
	if !stands || !there {
		return "never"
	}
	if _, code := pathWritten(base, flight); code != 0 {
		return "never"
	}
	from, by, ok := overWritten(base, flight, p)
	if !ok {
		return "never"
	}
	return fmt.Sprint(from, "-", by)
}

func sessionWritten(text string) string {
	lines := strings.Split(text, "\n")
	if lines[len(lines)-1] == "" {
		lines = lines[:len(lines)-1]
	}
	if len(text) > 10000 || len(lines) > 200 {
		return "too long\n"
	}
	r := newReader()
	var out strings.Builder
	for _, line := range lines {
		out.WriteString(r.answered(line) + "\n")
	}
	return out.String()
}

// randomSessionLine has few names, so that flights come to stand, but for those of randomLine.
func randomSessionLine(r *rand.Rand) string {
	flight, kind := fmt.Sprint("f", r.Intn(4)), fmt.Sprint("k", r.Intn(3))
	at := func() string { return fmt.Sprint("p", r.Intn(6)) }
	number := 1 + r.Intn(9)
	switch r.Intn(13) {
	case 0:
		return "flights"
	case 1, 2:
		return "path " + flight
	case 3, 4:
		return "over " + flight + " " + at()
	case 5:
		return fmt.Sprintf("kind %s %d %d", kind, 1+r.Intn(9), 9+r.Intn(9))
	case 6:
		return fmt.Sprintf("point %s %d %d", at(), r.Intn(16), r.Intn(16))
	case 7:
		return fmt.Sprintf("set %s kind %d %s", flight, number, kind)
	case 8:
		from := r.Intn(2) * (9800 + r.Intn(80))
		return fmt.Sprintf("set %s time %d %d %d", flight, number, from, from+r.Intn(100))
	case 9:
		return fmt.Sprintf("set %s level %d %d", flight, number, 1+r.Intn(6))
	case 10:
		route := []string{at(), at()}
		for range r.Intn(7) {
			route = append(route, at())
		}
		return fmt.Sprintf("set %s route %d %s", flight, number, strings.Join(route, " "))
	}
	return randomLine(r)
}

func randomSession(r *rand.Rand) string {
	var lines []string
	for range r.Intn(190) {
		line := randomSessionLine(r)
		if r.Intn(12) == 0 {
			line = spoilt(r, line)
		}
		lines = append(lines, line)
	}
	return strings.Join(lines, "\n") + []string{"", "\n"}[r.Intn(2)]
}

func TestSessionsAgainstASecondWriting(t *testing.T) {
	r := rand.New(rand.NewSource(19))
	seen := map[string]int{}
	for range 1200 {
		text := randomSession(r)
		want := sessionWritten(text)
		got := impl.PlanSession(text)
		if got != want {
			t.Fatalf("PlanSession(%q) = %q, not %q", text, got, want)
		}
		if again := impl.PlanSession(text); again != got {
			t.Fatalf("PlanSession(%q) = %q, and then %q", text, got, again)
		}
		for line := range strings.Lines(got) {
			seen[kindOfAnswer(strings.TrimSuffix(line, "\n"))]++
		}
	}
	for _, kind := range []string{"ok", "none", "never", "code 2", "code 3", "code 4", "no such line", "not as it is written", "said again", "taken already", "too many", "it does not fit", "names", "path", "ticks"} {
		if seen[kind] < 40 {
			t.Errorf("%q was met %d times", kind, seen[kind])
		}
	}
}

var (
	isNames = regexp.MustCompile(`\Af[0-9]+( f[0-9]+)*\z`)
	isTicks = regexp.MustCompile(`\A[0-9]+-[0-9]+\z`)
)

func kindOfAnswer(answer string) string {
	switch {
	case strings.Contains(answer, " end@"):
		return "path"
	case isNames.MatchString(answer):
		return "names"
	case isTicks.MatchString(answer):
		return "ticks"
	}
	return answer
}

// Paths of other lengths, with routes of several legs, and all codes of a path.
func TestSessionsOfWayBooks(t *testing.T) {
	r := rand.New(rand.NewSource(20))
	codes := map[string]int{}
	for range 400 {
		book := randomWayBook(r)
		text := impl.PlanPrint(book) + "flights\n"
		for _, e := range book.Entries {
			text += "path " + e.Name + "\n"
			for _, p := range book.Base.Points {
				text += "over " + e.Name + " " + p.Name + "\n"
			}
		}
		checkSession(t, text, sessionWritten(text))
		for line := range strings.Lines(impl.PlanSession(text)) {
			codes[strings.TrimSuffix(line, "\n")]++
		}
	}
	if codes["code 2"] < 20 || codes["code 3"] < 20 || codes["code 4"] < 20 || codes["never"] < 20 {
		t.Error("too few of a code:", codes["code 2"], codes["code 3"], codes["code 4"], codes["never"])
	}
}

// Each text that is one byte away from a session with a question of each kind.
func TestSessionOneByteAway(t *testing.T) {
	text := "kind j 1 2\npoint a 0 0\npoint b 2 1\n" + saidLines("k", "j", "5 6", "2", "a b") + "flights\npath k\nover k b\n"
	for at := 0; at <= len(text); at++ {
		if at < len(text) {
			shorter := text[:at] + text[at+1:]
			checkSession(t, shorter, sessionWritten(shorter))
		}
		for c := range 256 {
			b := string([]byte{byte(c)})
			longer := text[:at] + b + text[at:]
			checkSession(t, longer, sessionWritten(longer))
			if at < len(text) {
				other := text[:at] + b + text[at+1:]
				checkSession(t, other, sessionWritten(other))
			}
		}
	}
}

// Promise 9: the answers to the first lines do not hang on the lines behind them, unless the text is too long with these.
func TestSessionFirstLinesStandAlone(t *testing.T) {
	r := rand.New(rand.NewSource(21))
	for range 50 {
		var lines []string
		for range 1 + r.Intn(40) {
			lines = append(lines, strings.ReplaceAll(spoilt(r, randomSessionLine(r)), "\n", ""), randomSessionLine(r))
		}
		answers := strings.SplitAfter(impl.PlanSession(strings.Join(lines, "\n")+"\n"), "\n")
		if len(answers) != len(lines)+1 {
			t.Fatalf("%d lines got %d answers", len(lines), len(answers)-1)
		}
		for n := range len(lines) + 1 {
			first, want := strings.Join(lines[:n], "\n"), strings.Join(answers[:n], "")
			if n == 0 || lines[n-1] != "" {
				checkSession(t, first, want)
			}
			if n == 0 {
				continue
			}
			for _, more := range []string{"", "\n", "flights\n", "kind k9 2 1\n", "set f1 state 9 closed\npath f1\n", "\x00\xff", strings.Repeat("set f2 state 8 closed\n", impl.PlanMaxLines-n), strings.Repeat("x", impl.PlanMaxText-len(first)-1)} {
				if got := impl.PlanSession(first + "\n" + more); !strings.HasPrefix(got, want) {
					t.Fatalf("PlanSession(%.3000q) begins otherwise than %.3000q", first+"\n"+more, want)
				}
			}
			checkSession(t, first+"\n"+strings.Repeat("flights\n", impl.PlanMaxLines-n+1), "too long\n")
			checkSession(t, first+"\n"+strings.Repeat("x", impl.PlanMaxText-len(first)), "too long\n")
		}
	}
}

// The lines of a text without fault get ok, and with a fault just the lines ahead of it do; a session has what PlanParse reads.
func TestSessionOfATextIsItsParse(t *testing.T) {
	r := rand.New(rand.NewSource(22))
	words := []string{"ok", "", "no such line", "not as it is written", "said again", "taken already", "too many", "it does not fit"}
	for range 500 {
		lines := append(linesWithoutFault(r, r.Intn(120)), strings.ReplaceAll(spoilt(r, randomLine(r)), "\n", "")+"x", randomLine(r))
		text := strings.Join(lines, "\n") + "\n"
		_, f := impl.PlanParse(text)
		answers := strings.Split(impl.PlanSession(text), "\n")
		for i, answer := range answers[:len(lines)] {
			if f.Line == 0 || i+1 < f.Line {
				if answer != "ok" {
					t.Fatalf("%q: line %d got %q", text, i+1, answer)
				}
			} else if i+1 == f.Line && answer != words[f.Code] {
				t.Fatalf("%q: line %d got %q, and its code is %d", text, i+1, answer, f.Code)
			}
		}
	}
}

// No call leaves anything behind for the next one.
func TestSessionsStandApart(t *testing.T) {
	text, want := written(documentsSession())
	for range 3 {
		checkSession(t, text, want)
		checkSession(t, "flights\npath kl1\nover kl1 b\nkind jet 1 2\n", "none\ncode 2\nnever\nok\n")
		checkSession(t, strings.Repeat("\n", 201), "too long\n")
		checkSession(t, "", "")
	}
	done := make(chan string)
	for range 8 {
		go func() { done <- impl.PlanSession(text) }()
	}
	for range 8 {
		if got := <-done; got != want {
			t.Errorf("%q", got)
		}
	}
}

func TestSessionsAreNewMemory(t *testing.T) {
	first, _ := written(documentsSession())
	for _, said := range []string{first, "", "flights", "x", "kind jet 1 2", sampleHead + saidLines("k", "jet", "0 0", "1", "a b") + "flights\n", strings.Repeat("\n", 300)} {
		text := strings.Clone(said)
		got, again := impl.PlanSession(text), impl.PlanSession(text)
		if got != "" {
			checkFresh(t, "PlanSession", []any{got}, text, again)
		}
		if text != said {
			t.Error("a text that was handed in is not as it was")
		}
	}
}

func FuzzSession(f *testing.F) {
	text, _ := written(documentsSession())
	f.Add(text)
	f.Add("flights\npath k\nover k a\n\n")
	f.Fuzz(func(t *testing.T, text string) { checkSession(t, text, sessionWritten(text)) })
}
