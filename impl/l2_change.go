package impl

import (
	"strconv"
	"strings"
)

// Limits of changes.
const (
	PlanMaxNumber = 1000000
	PlanMaxRoute  = 8
)

// What a change is about.
const (
	PlanOfKind  = 1
	PlanOfTime  = 2
	PlanOfLevel = 3
	PlanOfRoute = 4
	PlanOfState = 5
)

// PlanChange is one thing that is said of a flight.
type PlanChange struct {
	Flight string
	What   int
	Number int
	Value  string
}

const (
	maxDigits   = 7
	leastRoute  = 2
	formWord    = "set"
	formParts   = 5
	stateOpen   = "open"
	stateClosed = "closed"
)

// saidWord is a row of the table of What.
type saidWord struct {
	what int
	word string
}

// saidWords is the one place that lists what can be said: forms are written
// and read by it, and init makes the rules from it.
var saidWords = [...]saidWord{
	{PlanOfKind, "kind"},
	{PlanOfTime, "time"},
	{PlanOfLevel, "level"},
	{PlanOfRoute, "route"},
	{PlanOfState, "state"},
}

// fitRule tells what fits one thing that is said. A rule may rely on the base
// being ok: every call that comes to it asks for that ahead.
type fitRule interface {
	fits(b PlanBase, value string) bool
}

// fitRules has the rules as init finds them, and stands beside ruleOf: answers
// are worked out by that, so that none hangs on what start-up code fills.
var fitRules = map[int]fitRule{}

func init() {
	for _, w := range saidWords {
		fitRules[w.what] = ruleOf(w.what)
	}
}

// ruleOf is nil for a What that is none of the table's.
func ruleOf(what int) fitRule {
	switch what {
	case PlanOfKind:
		return kindRule{}
	case PlanOfTime:
		return timeRule{}
	case PlanOfLevel:
		return levelRule{}
	case PlanOfRoute:
		return routeRule{}
	case PlanOfState:
		return stateRule{}
	}
	return nil
}

type kindRule struct{}

func (kindRule) fits(b PlanBase, value string) bool {
	_, there := placeOf(b.Kinds, value, kindName)
	return there
}

type timeRule struct{}

func (timeRule) fits(b PlanBase, value string) bool {
	from, by, ok := readTimes(value)
	return ok && from <= by && by <= PlanMaxTick
}

type levelRule struct{}

func (levelRule) fits(b PlanBase, value string) bool {
	level, ok := readDecimal(value)
	return ok && 1 <= level && level <= PlanMaxLevel
}

type routeRule struct{}

func (routeRule) fits(b PlanBase, value string) bool {
	return routeFits(b, wordsOf(value))
}

// routeFits takes words and not a value, so that a route that comes as a list
// is held to the same rule: a word with a space in it names no point.
func routeFits(b PlanBase, words []string) bool {
	if len(words) < leastRoute || len(words) > PlanMaxRoute {
		return false
	}
	for i, word := range words {
		if _, there := placeOf(b.Points, word, pointName); !there {
			return false
		}
		if i > 0 && words[i-1] == word {
			return false
		}
	}
	return true
}

type stateRule struct{}

func (stateRule) fits(b PlanBase, value string) bool {
	return value == stateOpen || value == stateClosed
}

// wordsOf cuts at each single space, so that two of them leave an empty word
// between: no rule takes that one, and needless spaces are refused by it.
func wordsOf(value string) []string {
	var words []string
	start := 0
	for at, r := range value {
		if r == ' ' {
			words = append(words, value[start:at])
			start = at + 1
		}
	}
	return append(words, value[start:])
}

// readDecimal is not strconv.Atoi, as that takes signs and needless zeros.
func readDecimal(s string) (int, bool) {
	if len(s) < 1 || len(s) > maxDigits || len(s) > 1 && s[0] == '0' {
		return 0, false
	}
	n := 0
	for _, r := range s {
		if r < '0' || r > '9' {
			return 0, false
		}
		n = n*10 + int(r-'0')
	}
	return n, true
}

// readTimes reads two decimals; whether they fit is not asked here.
func readTimes(value string) (from, by int, ok bool) {
	words := wordsOf(value)
	if len(words) != 2 {
		return 0, 0, false
	}
	from, fromOk := readDecimal(words[0])
	by, byOk := readDecimal(words[1])
	return from, by, fromOk && byOk
}

// PlanFits says whether a value fits.
func PlanFits(b PlanBase, what int, value string) bool {
	// Looked up, and not leaned on: see fitRules.
	_ = fitRules[what]
	return PlanBaseOk(b) && valueFits(b, what, value)
}

// PlanChangeOk says whether a change is ok.
func PlanChangeOk(b PlanBase, c PlanChange) bool {
	return PlanBaseOk(b) && changeFits(b, c)
}

// changeFits is for a base that is known to be ok: a book asks it once a
// field, and its base is looked at once.
func changeFits(b PlanBase, c PlanChange) bool {
	return nameOk(c.Flight) && numberOk(c.Number) && valueFits(b, c.What, c.Value)
}

func valueFits(b PlanBase, what int, value string) bool {
	rule := ruleOf(what)
	return rule != nil && rule.fits(b, value)
}

// PlanForm is the form of a change.
func PlanForm(c PlanChange) string {
	word, known := wordOf(c.What)
	if !known || !nameOk(c.Flight) || !numberOk(c.Number) || !valueHasForm(c.Value) {
		return ""
	}
	return formWord + " " + c.Flight + " " + word + " " + strconv.Itoa(c.Number) + " " + c.Value
}

// PlanRead reads the form of a change.
func PlanRead(s string) (PlanChange, bool) {
	// The value is the last part and keeps its own spaces: what has a form
	// need not fit, and comes back as it was.
	parts := strings.SplitN(s, " ", formParts)
	if len(parts) != formParts || parts[0] != formWord {
		return PlanChange{}, false
	}
	what, known := whatOf(parts[2])
	number, isDecimal := readDecimal(parts[3])
	if !known || !isDecimal || !nameOk(parts[1]) || !numberOk(number) || !valueHasForm(parts[4]) {
		return PlanChange{}, false
	}
	// Parts are pieces of s; an answer shares no memory with an argument.
	return PlanChange{
		Flight: strings.Clone(parts[1]),
		What:   what,
		Number: number,
		Value:  strings.Clone(parts[4]),
	}, true
}

func numberOk(number int) bool {
	return 1 <= number && number <= PlanMaxNumber
}

// valueHasForm asks less than a rule does: a form is one line, and that is all.
func valueHasForm(value string) bool {
	return value != "" && !strings.Contains(value, "\n")
}

func wordOf(what int) (string, bool) {
	for _, w := range saidWords {
		if w.what == what {
			return w.word, true
		}
	}
	return "", false
}

func whatOf(word string) (int, bool) {
	for _, w := range saidWords {
		if w.word == word {
			return w.what, true
		}
	}
	return 0, false
}
