package marker

import (
	"slices"
	"strings"

	"dovetail/api"
	"dovetail/pep"
	"dovetail/pyspec"
)

// setting is what a fit marker is held against.
type setting struct {
	env   []api.Var
	extra string
}

// lacks tells whether a marker asks for a variable that is not set.
func (s setting) lacks(m api.Mark) bool {
	return s.lacksSide(m.Left) || s.lacksSide(m.Right) || slices.ContainsFunc(m.Subs, s.lacks)
}

func (s setting) lacksSide(side api.Side) bool {
	return side.Var && !isExtra(side) && !isSet(s.env, side.Text)
}

func isExtra(side api.Side) bool { return side.Var && side.Text == extra }

func (s setting) holds(m api.Mark) bool {
	switch m.Op {
	case api.MkOr:
		return slices.ContainsFunc(m.Subs, s.holds)
	case api.MkAnd:
		return !slices.ContainsFunc(m.Subs, s.fails)
	}
	left, right := s.text(m.Left), s.text(m.Right)
	if isExtra(m.Left) || isExtra(m.Right) {
		return compareTexts(normalName(left), m.Cmp, normalName(right))
	}
	return compareVersions(left, m.Cmp, right)
}

func (s setting) fails(m api.Mark) bool { return !s.holds(m) }

// text is what a side says.
func (s setting) text(side api.Side) string {
	switch {
	case isExtra(side):
		return s.extra
	case side.Var:
		value, _ := valueOf(s.env, side.Text)
		return value
	}
	return side.Text
}

// normalName is a name's normal form, and any other text itself.
func normalName(s string) string {
	if normal, ok := Name(s); ok {
		return normal
	}
	return s
}

// compareVersions compares texts as versions, where they are such.
func compareVersions(left, cmp, right string) bool {
	clauses, f := pyspec.Parse(cmp + right)
	if _, g := pep.Parse(left); f.Err != api.OK || g.Err != api.OK || len(clauses) != 1 {
		return compareTexts(left, cmp, right)
	}
	return pyspec.Holds(clauses[0], left)
}

func compareTexts(left, cmp, right string) bool {
	switch cmp {
	case "in":
		return strings.Contains(right, left)
	case "not in":
		return !strings.Contains(right, left)
	case "==", "===":
		return left == right
	case "!=":
		return left != right
	case "<":
		return left < right
	case "<=":
		return left <= right
	case ">":
		return left > right
	case ">=":
		return left >= right
	}
	return false
}
