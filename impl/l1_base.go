// Package impl: flight plans, filed, changed and withdrawn, and what they come to.
package impl

import (
	"slices"
	"strings"
)

// Limits of what plans stand on.
const (
	PlanMaxName   = 8
	PlanMaxSide   = 16
	PlanMaxLevel  = 6
	PlanMaxTick   = 10000
	PlanMaxSlow   = 50
	PlanMaxKinds  = 6
	PlanMaxPoints = 16
)

// PlanKind is a kind of aircraft.
type PlanKind struct {
	Name  string
	Quick int
	Slow  int
}

// PlanPoint is a point with a name.
type PlanPoint struct {
	Name string
	X    int
	Y    int
}

// PlanBase is what plans stand on.
type PlanBase struct {
	Kinds  []PlanKind
	Points []PlanPoint
}

// PlanBaseOk says whether a base is ok.
func PlanBaseOk(b PlanBase) bool {
	return kindsOk(b.Kinds) && pointsOk(b.Points)
}

func kindsOk(kinds []PlanKind) bool {
	if !namesOk(kinds, PlanMaxKinds, kindName) {
		return false
	}
	for _, k := range kinds {
		if !paceOk(k) {
			return false
		}
	}
	return true
}

func pointsOk(points []PlanPoint) bool {
	if !namesOk(points, PlanMaxPoints, pointName) {
		return false
	}
	for i, p := range points {
		if !inside(p) || cellTaken(points[:i], p) {
			return false
		}
	}
	return true
}

// namesOk is generic so that kinds and points cannot come to differ in what a
// good list of names is. The size is looked at first: a list that is far too
// long is refused without a walk along it.
func namesOk[T any](list []T, most int, nameOf func(T) string) bool {
	if len(list) > most {
		return false
	}
	for i, item := range list {
		if !nameOk(nameOf(item)) {
			return false
		}
		if i > 0 && nameOf(list[i-1]) >= nameOf(item) {
			return false
		}
	}
	return true
}

// placeOf is for a list that is ascending by name: where a name stands in it,
// and true, or where it would come in, and false.
func placeOf[T any](list []T, name string, nameOf func(T) string) (int, bool) {
	for at, item := range list {
		if nameOf(item) >= name {
			return at, nameOf(item) == name
		}
	}
	return len(list), false
}

func kindName(k PlanKind) string {
	return k.Name
}

func pointName(p PlanPoint) string {
	return p.Name
}

func nameOk(s string) bool {
	if len(s) < 1 || len(s) > PlanMaxName {
		return false
	}
	for _, r := range s {
		if !nameRune(r) {
			return false
		}
	}
	return true
}

func nameRune(r rune) bool {
	return r >= 'a' && r <= 'z' || r >= '0' && r <= '9' || r == '-'
}

func paceOk(k PlanKind) bool {
	return 1 <= k.Quick && k.Quick <= k.Slow && k.Slow <= PlanMaxSlow
}

func inside(p PlanPoint) bool {
	return onSide(p.X) && onSide(p.Y)
}

func onSide(at int) bool {
	return 0 <= at && at < PlanMaxSide
}

func cellTaken(points []PlanPoint, p PlanPoint) bool {
	for _, q := range points {
		if q.X == p.X && q.Y == p.Y {
			return true
		}
	}
	return false
}

func sameBase(a, b PlanBase) bool {
	return slices.Equal(a.Kinds, b.Kinds) && slices.Equal(a.Points, b.Points)
}

// copyBase copies names as well as lists: an answer shares no memory with an
// argument.
func copyBase(b PlanBase) PlanBase {
	var c PlanBase
	for _, k := range b.Kinds {
		k.Name = strings.Clone(k.Name)
		c.Kinds = append(c.Kinds, k)
	}
	for _, p := range b.Points {
		p.Name = strings.Clone(p.Name)
		c.Points = append(c.Points, p)
	}
	return c
}
