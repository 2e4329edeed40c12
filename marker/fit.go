package marker

import (
	"slices"
	"strings"

	"dovetail/api"
)

// allowance is how many comparisons a marker may still have. What goes beyond it is not looked at, so that the look ends however much is nested.
type allowance struct{ comparisons int }

// fits tells whether a marker can be, which stands in so many pairs of parentheses.
func (a *allowance) fits(m api.Mark, depth int) bool {
	switch m.Op {
	case api.MkCmp:
		a.comparisons--
		return a.comparisons >= 0 && fitComparison(m)
	case api.MkOr, api.MkAnd:
		return len(m.Subs) > 1 && comparesNothing(m) && a.fitSubs(m, depth)
	}
	return false
}

func comparesNothing(m api.Mark) bool {
	return m.Cmp == "" && m.Left == api.Side{} && m.Right == api.Side{}
}

func (a *allowance) fitSubs(m api.Mark, depth int) bool {
	for _, sub := range m.Subs {
		inner := depth
		// One that fits stands within MkAnd, and is written in parentheses.
		if sub.Op == api.MkOr {
			inner++
		}
		if sub.Op == m.Op || inner > api.MaxDepth || !a.fits(sub, inner) {
			return false
		}
	}
	return true
}

func fitComparison(m api.Mark) bool {
	known := m.Cmp == "in" || m.Cmp == "not in" || slices.Contains(signs(), m.Cmp)
	return known && len(m.Subs) == 0 && fitSide(m.Left) && fitSide(m.Right)
}

func fitSide(s api.Side) bool {
	if s.Var {
		return isVar(s.Text)
	}
	return printedEnd(s.Text) == len(s.Text) && !(strings.Contains(s.Text, `'`) && strings.Contains(s.Text, `"`))
}

// write is a fit marker's text.
func write(m api.Mark) string {
	switch m.Op {
	case api.MkOr:
		return writeSubs(m, " or ")
	case api.MkAnd:
		return writeSubs(m, " and ")
	}
	return writeSide(m.Left) + " " + m.Cmp + " " + writeSide(m.Right)
}

func writeSubs(m api.Mark, between string) string {
	var l []string
	for _, sub := range m.Subs {
		text := write(sub)
		if sub.Op == api.MkOr {
			text = "(" + text + ")"
		}
		l = append(l, text)
	}
	return strings.Join(l, between)
}

func writeSide(s api.Side) string {
	switch {
	case s.Var:
		return s.Text
	case strings.Contains(s.Text, `"`):
		return `'` + s.Text + `'`
	}
	return `"` + s.Text + `"`
}
