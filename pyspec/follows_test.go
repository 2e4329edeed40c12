package pyspec_test

import (
	"slices"
	"strings"
	"testing"

	"dovetail/api"
	"dovetail/checks"
	"dovetail/pyspec"
)

// thinned is every so manieth clause.
func thinned(step int) []api.PyClause {
	var l []api.PyClause
	for i, c := range everyClause() {
		if i%step == 0 {
			l = append(l, c)
		}
	}
	return l
}

// P10.8
func TestThereAndBack(t *testing.T) {
	there := 0
	for _, l := range checks.Lists(thinned(9), 2) {
		for _, between := range []string{",", " ,", "\t, "} {
			var all []string
			for _, c := range l {
				all = append(all, " "+pyspec.Format([]api.PyClause{c})+"\t")
			}
			read, f := pyspec.Parse(strings.Join(all, between))
			again, g := pyspec.Parse(pyspec.Format(read))
			if f != (api.Fault{}) || g != f || !slices.Equal(read, l) || !slices.Equal(again, l) {
				t.Fatalf("%+v is read as %+v, and again as %+v", l, read, again)
			}
			there++
		}
	}
	if there < 500 {
		t.Errorf("only %d texts", there)
	}
}

// P10.9: what both want; a pre-release, if either lets it in.
func TestBoth(t *testing.T) {
	some := thinned(11)
	for _, a := range some {
		for _, b := range some {
			left, right := pyspec.Format([]api.PyClause{a}), pyspec.Format([]api.PyClause{b})
			for _, v := range versions() {
				want := pyspec.Match(left, v) && pyspec.Match(right, v)
				if isPre(v) {
					want = pyspec.Holds(a, v) && pyspec.Holds(b, v) && (pyspec.Pre([]api.PyClause{a}) || pyspec.Pre([]api.PyClause{b}))
				}
				if pyspec.Match(left+","+right, v) != want || pyspec.Match(right+" , "+left, v) != want {
					t.Errorf("%s and %s want %q or not", left, right, v)
				}
			}
		}
	}
}

// P10.9: just one of == and !=.
func TestEqualOrNot(t *testing.T) {
	pairs := 0
	for _, c := range everyClause() {
		if c.Op != "==" {
			continue
		}
		other := c
		other.Op = "!="
		for _, v := range versions() {
			pairs++
			if pyspec.Holds(c, v) == pyspec.Holds(other, v) {
				t.Errorf("%+v and != of %q", c, v)
			}
		}
	}
	if pairs < 1000 {
		t.Errorf("only %d pairs", pairs)
	}
}

// P10.10
func TestOperatorsTogether(t *testing.T) {
	asked := 0
	for _, V := range versions() {
		for _, v := range versions() {
			holds := func(op string) bool { return pyspec.Holds(one(op, V), v) }
			if holds("<") && holds(">") {
				t.Errorf("%q is less and more than %q", v, V)
			}
			if holds("<=") && holds(">=") && !holds("==") {
				t.Errorf("%q is not %q", v, V)
			}
			if pyspec.Match("<="+V, v) && pyspec.Match(">="+V, v) && !pyspec.Match("=="+V, v) {
				t.Errorf("%q is not wanted by ==%q", v, V)
			}
			numbers := baseOf(V)
			dot := strings.LastIndex(numbers, ".")
			if dot < 0 || strings.Contains(V, "+") {
				continue
			}
			asked++
			if holds("~=") != (holds(">=") && pyspec.Holds(starred("==", numbers[:dot]), v)) {
				t.Errorf("~=%q of %q", V, v)
			}
		}
	}
	if asked < 1000 {
		t.Errorf("only %d times ~=", asked)
	}
}
