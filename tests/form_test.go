package tests

import (
	"fmt"
	"math"
	"regexp"
	"strconv"
	"strings"
	"testing"

	"loop.example/lapplan/impl"
)

// isForm is the document's words on forms, written down a second time.
var isForm = regexp.MustCompile(`\Aset ([a-z0-9-]{1,8}) (kind|time|level|route|state) ([1-9][0-9]{0,5}|1000000) ([^\n]+)\z`)

var wordsOfWhat = []string{"", "kind", "time", "level", "route", "state"}

func badNumbers() []int {
	return []int{0, -1, -7, 1000001, 10000000, math.MinInt, math.MaxInt, 1 << 32}
}

// formValues have a form; most of them fit nothing.
func formValues() []string {
	values := []string{"jet", "5 6", "3", "a b", "open", "a  b", " ", "  ", " a", "a ", " a ", "\t", "\r", "a\rb", "\x00", "\xff", "a\xffb", "\xc3", "é", "\u2028", "set kl1 route 1 a", "12", "0", "-1", strings.Repeat("x", 20000)}
	for c := range 256 {
		if c != '\n' {
			values = append(values, string([]byte{byte(c)}))
		}
	}
	return values
}

func checkForm(t *testing.T, c impl.PlanChange) {
	t.Helper()
	want := fmt.Sprintf("set %s %s %d %s", c.Flight, wordsOfWhat[c.What], c.Number, c.Value)
	if got := impl.PlanForm(c); got != want {
		t.Errorf("PlanForm(%#v) = %q", c, got)
	}
	if back, ok := impl.PlanRead(want); !ok || back != c {
		t.Errorf("PlanRead(%q) = %#v, %v", want, back, ok)
	}
}

// Promise 4: PlanRead of PlanForm is the change, for every one that has a form.
func TestReadOfFormIsTheChange(t *testing.T) {
	for what := 1; what <= 5; what++ {
		for _, value := range formValues() {
			checkForm(t, impl.PlanChange{Flight: "kl1", What: what, Number: 12, Value: value})
		}
		for _, flight := range goodNames() {
			checkForm(t, impl.PlanChange{Flight: flight, What: what, Number: 12, Value: "a"})
		}
		for _, number := range []int{1, 2, 9, 10, 11, 99, 100, 99999, 100000, 999999, 1000000} {
			checkForm(t, impl.PlanChange{Flight: "kl1", What: what, Number: number, Value: "a"})
		}
	}
}

func checkNoForm(t *testing.T, c impl.PlanChange) {
	t.Helper()
	if got := impl.PlanForm(c); got != "" {
		t.Errorf("PlanForm(%#v) = %q", c, got)
	}
}

func TestWhatHasNoForm(t *testing.T) {
	checkNoForm(t, impl.PlanChange{})
	for what := 1; what <= 5; what++ {
		for _, flight := range badNames() {
			checkNoForm(t, impl.PlanChange{Flight: flight, What: what, Number: 1, Value: "a"})
		}
		for _, number := range badNumbers() {
			checkNoForm(t, impl.PlanChange{Flight: "kl1", What: what, Number: number, Value: "a"})
		}
		for _, value := range []string{"", "\n", "a\n", "\na", "a\nb", "a b\n", "\r\n"} {
			checkNoForm(t, impl.PlanChange{Flight: "kl1", What: what, Number: 1, Value: value})
		}
	}
	for _, what := range []int{0, 6, -1, 257, math.MinInt, math.MaxInt} {
		checkNoForm(t, impl.PlanChange{Flight: "kl1", What: what, Number: 1, Value: "a"})
	}
}

// checkRead holds what PlanRead answers against isForm.
func checkRead(t *testing.T, s string) {
	t.Helper()
	got, ok := impl.PlanRead(s)
	parts := isForm.FindStringSubmatch(s)
	if ok != (parts != nil) {
		t.Errorf("PlanRead(%q) = %#v, %v", s, got, ok)
		return
	}
	if !ok {
		if got != (impl.PlanChange{}) {
			t.Errorf("PlanRead(%q) gives %#v beside a false", s, got)
		}
		return
	}
	number, _ := strconv.Atoi(parts[3])
	if got.Flight != parts[1] || wordsOfWhat[got.What] != parts[2] || got.Number != number || got.Value != parts[4] {
		t.Errorf("PlanRead(%q) = %#v", s, got)
	}
	if form := impl.PlanForm(got); form != s {
		t.Errorf("PlanForm of PlanRead(%q) is %q", s, form)
	}
}

// Promise 4: it reads nothing else.
func TestReadsNothingElse(t *testing.T) {
	for _, s := range []string{
		"", " ", "    ", "\n", "set", "set ", "set kl1", "set kl1 route", "set kl1 route 12", "set kl1 route 12 ",
		"set kl1 route 12 a\n", "\nset kl1 route 12 a", "set kl1 route 12 a\nset kl1 route 12 a", "set kl1 route 12 \n",
		" set kl1 route 12 a", "set  kl1 route 12 a", "set kl1  route 12 a", "set kl1 route  12 a", "set\tkl1 route 12 a", "set kl1 route 12\ta",
		"set kl1 route 012 a", "set kl1 route 00 a", "set kl1 route 0 a", "set kl1 route +12 a", "set kl1 route -12 a", "set kl1 route -0 a", "set kl1 route 1.0 a", "set kl1 route 1e3 a", "set kl1 route 0x1 a", "set kl1 route 1_0 a", "set kl1 route ١ a", "set kl1 route x a",
		"set kl1 route 1000001 a", "set kl1 route 9999999 a", "set kl1 route 10000000 a", "set kl1 route 01000000 a", "set kl1 route 4294967297 a", "set kl1 route 18446744073709551617 a", "set kl1 route 99999999999999999999999 a",
		"set kl1 Route 12 a", "set kl1 routes 12 a", "set kl1 4 12 a", "set kl1 point 12 a", "set kl1 set 12 a",
		"Set kl1 route 12 a", "sets kl1 route 12 a", "let kl1 route 12 a", "kind kl1 1 2 a",
		"set KL1 route 12 a", "set abcdefghi route 12 a", "set \xff route 12 a", "set é route 12 a",
	} {
		checkRead(t, s)
		if c, ok := impl.PlanRead(s); ok {
			t.Errorf("PlanRead(%q) = %#v", s, c)
		}
	}
}

func TestReadKeepsTheValuesSpaces(t *testing.T) {
	for s, value := range map[string]string{
		"set kl1 route 12 a ":   "a ",
		"set kl1 route 12  a":   " a",
		"set kl1 route 12  ":    " ",
		"set kl1 route 12 a  b": "a  b",
		"set kl1 route 12 a\r":  "a\r",
	} {
		checkRead(t, s)
		if c, ok := impl.PlanRead(s); !ok || c.Value != value {
			t.Errorf("PlanRead(%q) = %#v, %v", s, c, ok)
		}
	}
}

// Each text that is one byte away from a form: one put in, one taken out, one changed.
func TestReadOneByteAway(t *testing.T) {
	for _, s := range []string{"set kl1 route 12 a b", "set abcdefgh kind 1000000 jet", "set - time 999999 5 6", "set 0 level 1 3", "set z state 10 open"} {
		for at := 0; at <= len(s); at++ {
			if at < len(s) {
				checkRead(t, s[:at]+s[at+1:])
			}
			for c := range 256 {
				b := string([]byte{byte(c)})
				checkRead(t, s[:at]+b+s[at:])
				if at < len(s) {
					checkRead(t, s[:at]+b+s[at+1:])
				}
			}
		}
	}
}

// Each text of four pieces out of those that a form is made of, good and bad.
func TestReadPieces(t *testing.T) {
	pieces := []string{"", " ", "set", "set kl1", " route ", "kl1 level", "12", "012", "1000001", "a", "\n", "\xff"}
	texts := []string{""}
	for range 4 {
		var longer []string
		for _, s := range texts {
			for _, p := range pieces {
				longer = append(longer, s+p)
			}
		}
		texts = longer
	}
	for _, s := range texts {
		checkRead(t, s)
		checkRead(t, "set kl1 route "+s)
	}
}

func FuzzRead(f *testing.F) {
	f.Add("set kl1 route 12 a b")
	f.Add("set kl1 route 012 a\xff")
	f.Fuzz(func(t *testing.T, s string) { checkRead(t, s) })
}
