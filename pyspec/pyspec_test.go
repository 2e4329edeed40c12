package pyspec_test

import (
	"regexp"
	"slices"
	"strings"
	"testing"

	"dovetail/api"
	"dovetail/checks"
	"dovetail/pep"
	"dovetail/pyspec"
)

// unread is clauses that no text is read as.
func unread() []api.PyClause {
	l := []api.PyClause{
		{}, {Star: true}, one("", "1.0"), one("", "==1.0"), one("==", ""), one("===", ""), starred("==", ""), starred("!=", ""),
		// Text that is read as another clause, or as several.
		one("==", "1.0.*"), one("!=", "1.*"), starred("===", "1.0"), starred("===", ""), one("==", "=1.0"), one("<", "=1.0"), one(">", "=1.0"), one("=", "=1.0"), one("<=1", ".0"), one("~", "=1.0"), one(" ==", "1.0"), one("== ", "1.0"), one("==", " 1.0"), one("==", "1.0 "), one("==", "1.0\t"), starred("==", "1.0 "), one("==", "1.0,<2"), one("===", "x,<2"), one("<2,==", "1.0"), one("===", " x"), one("===", "x "),
		one("===", "a b"), one("===", "\n"), one("===", "a\x7f"), one("===", "\xff"), one("===", "a\x00"), one("===", ","), one("===", strings.Repeat("x", 254)),
	}
	for _, op := range []string{"=", "~", "!", "====", "=<", "=>", "<>", "~==", "1", "x", ",", " ", "\xff"} {
		l = append(l, one(op, "1.0"), starred(op, "1.0"), one(op, "1.0a1"))
	}
	for _, op := range []string{"~=", "==", "!=", "<=", ">=", "<", ">"} {
		for _, bad := range []string{"x", "1.", "1.0+", "1.0-", "v", "*", "1.0*", "\xff", "1.0a1.", strings.Repeat("1", 65)} {
			l = append(l, one(op, bad), starred(op, bad))
		}
		for _, more := range []string{"1.0a1", "1.0.post1", "1.0.dev1", "1.0+a", "1.0a1.post1"} {
			l = append(l, starred(op, more))
		}
		if op != "==" && op != "!=" {
			l = append(l, starred(op, "1.0"), one(op, "1.0+a"), one(op, "1.0a1+a"))
		}
	}
	return append(l, one("~=", "1"), one("~=", "1a1"), one("~=", "1.a1"), one("~=", "2!1"), one("~=", "1.dev1"))
}

// P10.2
func TestFormat(t *testing.T) {
	long := strings.Repeat("x", 253)
	for _, c := range []struct {
		l    []api.PyClause
		want string
	}{
		{nil, ""}, {[]api.PyClause{}, ""}, {[]api.PyClause{one(">=", "1.0")}, ">=1.0"}, {[]api.PyClause{starred("==", "1.0")}, "==1.0.*"}, {[]api.PyClause{starred("!=", "v2!01")}, "!=v2!01.*"},
		{[]api.PyClause{one("~=", "1.4.2"), one("==", "1.0+A-1"), one("!=", "1"), one("<=", "1.0.dev1"), one(">=", "V1"), one("<", "1-1"), one(">", "0"), one("===", "==.*")}, "~=1.4.2,==1.0+A-1,!=1,<=1.0.dev1,>=V1,<1-1,>0,=====.*"},
		{slices.Repeat([]api.PyClause{one("<", "1")}, 32), strings.Repeat("<1,", 31) + "<1"}, {slices.Repeat([]api.PyClause{one("<", "1")}, 33), ""}, {slices.Repeat([]api.PyClause{one("<", "1")}, 5000), ""},
		{[]api.PyClause{one("===", long)}, "===" + long}, {[]api.PyClause{one("===", long+"x")}, ""}, {[]api.PyClause{one("===", long[3:]), one("<", "1")}, "===" + long[3:] + ",<1"}, {[]api.PyClause{one("===", long[2:]), one("<", "1")}, ""},
	} {
		if got := pyspec.Format(c.l); got != c.want {
			t.Errorf("Format(%+v) = %q, not %q", c.l, got, c.want)
		}
	}
	good := one(">=", "1.0")
	for _, bad := range unread() {
		for _, l := range [][]api.PyClause{{bad}, {bad, bad}, {good, bad}, {bad, good}, {good, bad, good}} {
			if got := pyspec.Format(l); got != "" {
				t.Errorf("Format(%+v) = %q", l, got)
			}
		}
	}
}

// row is a clause, the versions that it holds of, and some that it does not.
type row struct {
	clause  api.PyClause
	yes, no string
}

// rows is the table of what a clause holds of, without !=.
func rows() []row {
	return []row{
		{one("==", "1.0"), "1 1.0 1.0.0 01.00 v1.0 0!1.0 1.0+a 1+1.2", "1.0.1 1.1 0.9 2 10 1!1.0 1.0a1 1.0.post1 1.0.dev1 1.0-1 1.0a1+a 1.0.post1+a"},
		{one("==", "v01"), "1 1.0 1.0.0 V1 1+x", "1.1 1a1 1!1"},
		{one("==", "1.0+a"), "1.0+a 1+A 1.0.0+a v1.0+a", "1.0 1 1.0+b 1.0+a.1 1.0+1 1.0a1+a 1!1.0+a 1.0.post1+a"},
		{one("==", "1.0+01.B-c"), "1.0+1.b.c 1+001_B-C", "1.0+1.b 1.0+01b.c 1.0 1.0+2.b.c"},
		{one("==", "1.0a1"), "1.0a1 1.0.alpha_1 1a1 1a1+x", "1.0 1.0a2 1.0a1.dev1 1.0a1.post1 1.0b1"},
		{one("==", "2!1.post1.dev3"), "2!1.0.post1.dev3 2!1-1dev3+x", "1.post1.dev3 2!1 2!1.post1 2!1.post1.dev4"},
		{starred("==", "1.0"), "1 1.0 1.0.0 1.0.5 1.0a1 1.0.dev1 1.0.post2 1.0+x 1.0.1rc1 v1.0 01.00.9 1a1", "1.1 1.01 0.9 2.0 10.0 1.10 1!1.0 0 0.1.0"},
		{starred("==", "1"), "1 1.9 1.10.2 1a1 1.99.post3+x 0!1.5", "2 0.1 10 11.0 1!1"},
		{starred("==", "1.0.0"), "1 1.0 1.0.0.9 1.0.dev1", "1.0.1 1.1 1.0.1.0"},
		{starred("==", "01.02"), "1.2 1.2.5 1.02", "1.0.2 1.20 1"},
		{starred("==", "1!2"), "1!2 1!2.5 01!2.0a1", "2 2.5 2!2 1!3 1!1.2"},
		{starred("==", "0!1"), "1 1.1 00!1.5", "1!1 0 2"},
		{starred("==", "0"), "0 0.1 0.0.dev1 0.9+x", "1 1.0 1!0"},
		{one("~=", "1.4.2"), "1.4.2 1.4.2.0 1.4.9 1.4.10 1.4.2.post1 1.4.2+a 1.4.3a1 1.4.2.1.dev0", "1.4.1 1.4 1.5 1.5a1 1.4.2a1 1.4.2.dev1 2.4.2 1!1.4.2 0.4.9 1.40.2"},
		{one("~=", "1.4"), "1.4 1.4.0 1.9 1.99.9 1.4.post1 1.10a1 1.4+0", "2 2.0a1 1.3 1.4rc1 1!1.5 1 1.3+z 1.4a1+z"},
		{one("~=", "1.4.0"), "1.4 1.4.5", "1.5 1.3"},
		{one("~=", "1.4a1"), "1.4a1 1.4b1 1.4 1.9 1.4a1.post0 1.4a1+x", "1.4.dev1 1.3 2 2a1 1.4a0 1.4a1.dev1"},
		{one("~=", "1.4.post2"), "1.4.post2 1.4.post3 1.5 1.4.post2+x", "1.4 1.4.post1 2.0 1.4.post2.dev1"},
		{one("~=", "1!2.2"), "1!2.2 1!2.9 1!2.2+x", "2.2 2.9 1!3 2!2.5 1!2 0!2.2"},
		{one("~=", "0.0"), "0 0.0 0.9 0.0.1a1", "1 1!0 0.dev1 0a1"},
		{one("<=", "1.0"), "1.0 1 0.9 1.0a1 1.0.dev1 1.0+a 1.0+9.9 0!1 1.0.0 1a1+x", "1.0.post1 1.0.1 1.1 1!0 1.0.1.dev0 1.0.post0.dev0 1.0.post1+a"},
		{one("<=", "1.0.post1"), "1.0.post1 1.0 1.0.post1+x 1.0.post1.dev9 1-1", "1.0.post2 1.0.1 1.0.post2.dev0"},
		{one("<=", "1.0a1"), "1.0a1 1.0a1+x 1.0a1.dev1 1.0.dev5 0.9", "1.0a1.post0 1.0a2 1.0"},
		{one(">=", "1.0"), "1.0 1 1.0+a 1.0.post1 1.0.1.dev0 1!0 1.1a1 10", "1.0a1 1.0.dev1 0.9 1.0rc1+x 0!0.99 0.9+z"},
		{one(">=", "1.0a1"), "1.0a1 1.0a1+x 1.0 2 1.0b0.dev0", "1.0.dev1 1.0a0 1.0a1.dev1 0.9 1.0a0+z"},
		{one(">=", "1!0"), "1!0 1!0.1 2!0 1!0+a", "9 0 1!0.dev0"},
		{one("<", "1.0"), "0.9 0 0.9.post1 0.9+a 0.9a1 0.9.9.dev1 0!0", "1.0 1 1.0a1 1.0rc1 1.0.dev1 1a1 1.0.0b2 1.0a1+x 1.0a1.post1 1.0+a 1.0.post1 1.1 1!0 1.0.1a1"},
		{one("<", "1.0.1"), "1.0 1.0a1 1.0.post1 1.0+a 1.0.dev1", "1.0.1a1 1.0.1.0.dev1 1.0.1 1.0.1+a"},
		{one("<", "1.0rc1"), "1.0b1 1.0a1 1.0.dev1 1.0rc1.dev1 0.9 1.0b1+x 1a1", "1.0rc1 1.0 1.0rc1+x 1.0rc2 1.0rc1.post1"},
		{one("<", "1.0.post1"), "1.0 1.0+a 1.0.post0 0.9", "1.0a1 1.0.dev1 1.0.post1.dev1 1.0.post1 1.0.post1+a 1a1.post1"},
		{one("<", "1.0.dev1"), "1.0.dev0 0.9 1.0.dev0+a", "1.0.dev1 1.0a1 1.0 1.0.dev1+a"},
		{one("<", "1!1.0"), "9 1.0 1.0a1 1!0.9 1.dev0", "1!1a1 1!1.0 1!1.0.dev0 2!0"},
		{one(">", "1.7"), "1.7.1 1.8 2 1!0 1.7.1.post1 1.7.1+a 1.7.1a1 1.8.dev0 1!1.7.post1 1!1.7+a", "1.7 1.7.0 1.7.0.post1 1.7-1 1.7+a 1.7.0+1 1.6 1.7a1 1.7.post1+a 1.7.post1.dev2 0!1.7 1.6.post1 1.6+a"},
		{one(">", "1.7.post2"), "1.7.post3 1.8 1.7.0.post10 1.7.post3.dev1 1.7.1+a", "1.7.post2 1.7.post1 1.7 1.7.post3+a 1.7.post2+a 1.7+a"},
		{one(">", "1.7a1"), "1.7a2 1.7b1 1.7 1.7rc1.dev1 1.7.1.post1", "1.7a1 1.7.dev1 1.7a1.post1 1.7a1+x 1.7+x 1.7.post1 1.7a2.post1 1.7a1.dev9"},
		{one(">", "1.7a1.post1"), "1.7a1.post2 1.7.post0 1.7", "1.7a1.post1 1.7a1 1.7a1.post2+x"},
		{one(">", "1!1"), "1!2 2!0 1!1.0.1", "1!1 9 1!1.post1 1!1+a"},
		{one(">", "1.7.dev3"), "1.7.dev4 1.7a1 1.7", "1.7.dev3 1.7.post1 1.7.dev4+x 1.6"},
		{one("===", "1.0"), "1.0", "1 1.0.0 v1.0 1.0+a 01.0 0!1.0"},
		{one("===", "1.0A1"), "1.0a1 1.0A1", "1.0.a1 1.0alpha1 1a1 1.0"},
		{one("===", "V1.0+X"), "v1.0+x V1.0+x V1.0+X", "1.0+x v1.0 v1.0+y"},
		{one("===", "1.0.*"), "", "1.0 1.0.0 1"}, {one("===", "foo"), "", "1.0 0"}, {one("===", "1.0["), "", "1.0"},
	}
}

// P10.3, row by row; != turns == round.
func TestHolds(t *testing.T) {
	for _, r := range rows() {
		turned := r.clause
		turned.Op = "!="
		for wanted, l := range map[bool]string{true: r.yes, false: r.no} {
			for _, v := range strings.Fields(l) {
				if pyspec.Holds(r.clause, v) != wanted {
					t.Errorf("Holds(%+v, %q) = %v", r.clause, v, !wanted)
				}
				if r.clause.Op == "==" && pyspec.Holds(turned, v) == wanted {
					t.Errorf("Holds(%+v, %q) = %v", turned, v, wanted)
				}
			}
		}
	}
}

// noVersions is texts that are none.
func noVersions() []string {
	return []string{"", " ", "x", "foo", "v", "1.", "1.0 ", " 1.0", "\t1", "1.0+", "1.*", "1.0.*", "*", "==1.0", "1,2", "1.0[", "\xff", "1.0\n", strings.Repeat("1", 65), "1" + strings.Repeat(".0", 32)}
}

// P10.3: what is no version, and clauses that no text is read as.
func TestHoldsOfNone(t *testing.T) {
	for _, v := range noVersions() {
		for _, r := range rows() {
			if turned := (api.PyClause{Op: "!=", Ver: r.clause.Ver, Star: r.clause.Star}); pyspec.Holds(r.clause, v) || pyspec.Holds(turned, v) {
				t.Errorf("%+v, or !=, holds of %q", r.clause, v)
			}
		}
		if pyspec.Holds(one("===", v), v) {
			t.Errorf("=== holds of %q", v)
		}
	}
	for _, c := range unread() {
		for _, v := range append(noVersions(), "0", "1", "1.0", "1.0a1", "0.9", "1.0+a", "3", c.Ver) {
			if pyspec.Holds(c, v) {
				t.Errorf("%+v holds of %q", c, v)
			}
		}
	}
	nines := strings.Repeat("9", 64)
	if !pyspec.Holds(one(">=", nines), nines) || !pyspec.Holds(one(">", nines[1:]), nines) || !pyspec.Holds(starred("==", nines), nines) || !pyspec.Holds(one("===", nines), nines) || pyspec.Holds(one("<", nines), nines) {
		t.Error("the longest version")
	}
}

// versions is some of each kind, with several texts of the same.
func versions() []string {
	return []string{
		"0", "0.dev0", "0.9", "0.9.post1+z", "1", "1.0", "v1.0", "01.0.0", "0!1.0", "1.0.1", "1.0.1a1", "1.0.1+a", "1.0.0.1", "1.1", "1.1.dev0", "1.2", "1.10", "2", "2.0a1", "10.0",
		"1.0a1", "1a1", "1.0.0-ALPHA_1", "1.0a1.dev1", "1.0a1.post1", "1.0a1.post1.dev2", "1.0a2", "1.0b2", "1.0rc1", "1.0.dev1", "1.0.dev2", "1.0.post1", "1.0-1", "1.0.post1.dev2", "1.0.post2",
		"1.0+a", "1.0+A", "1+a", "1.0+a.1", "1.0+1", "1.0a1+a", "1.0.dev1+a", "1.0.post1+a", "1.0.post2+1",
		"1!0", "1!1", "1!1.0", "1!1.0a1", "1!1.0.dev3", "1!1.0.post1+a", "2!1.0.1",
	}
}

var (
	baseFirst = regexp.MustCompile(`^[vV]?([0-9]+!)?[0-9]+(\.[0-9]+)*`)
	preWords  = regexp.MustCompile(`a|b|rc|dev`)
)

// public is a version's text up to its local part.
func public(v string) string {
	text, _, _ := strings.Cut(v, "+")
	return text
}

func baseOf(v string) string { return baseFirst.FindString(v) }

func isPre(v string) bool { return preWords.MatchString(public(pep.Normal(v))) }

func isPost(v string) bool { return strings.Contains(pep.Normal(v), ".post") }

// beginsWith is the table's words on .*: V is an epoch, perhaps, and numbers, or nothing behind the epoch.
func beginsWith(v, V string) bool {
	split := func(s string) (string, []string) {
		epoch, numbers, found := strings.Cut(pep.Normal(baseOf(s)), "!")
		if !found {
			epoch, numbers = "0", epoch
		}
		return epoch, strings.Split(numbers, ".")
	}
	epoch, have := split(v)
	wantedEpoch, want := split(V)
	have = append(have, slices.Repeat([]string{"0"}, len(want))...)
	return epoch == wantedEpoch && slices.Equal(have[:len(want)], want)
}

// wantedHolds is the table by its words, on texts.
func wantedHolds(c api.PyClause, v string) bool {
	V, order := c.Ver, pep.Compare(v, c.Ver)
	byPublic := pep.Compare(public(v), c.Ver)
	sameBase := pep.Compare(baseOf(v), baseOf(V)) == 0
	switch c.Op {
	case "==":
		if c.Star {
			return beginsWith(v, V)
		}
		return strings.Contains(V, "+") && order == 0 || !strings.Contains(V, "+") && byPublic == 0
	case "!=":
		c.Op = "=="
		return !wantedHolds(c, v)
	case "~=":
		numbers := baseOf(V)
		return byPublic >= 0 && beginsWith(v, numbers[:strings.LastIndex(numbers, ".")])
	case "<=":
		return byPublic <= 0
	case ">=":
		return byPublic >= 0
	case "<":
		return order < 0 && !(isPre(v) && !isPre(V) && sameBase)
	case ">":
		return order > 0 && !(sameBase && (strings.Contains(v, "+") || isPost(v) && !isPost(V)))
	}
	return strings.EqualFold(v, V)
}

// everyClause is each operator with each version that may stand there, and with some beginnings of them.
func everyClause() []api.PyClause {
	var l []api.PyClause
	for _, op := range signs() {
		for _, v := range versions() {
			for _, c := range []api.PyClause{one(op, v), starred(op, v)} {
				if pyspec.Format([]api.PyClause{c}) != "" {
					l = append(l, c)
				}
			}
		}
	}
	return l
}

// P10.3 by the table's words.
func TestHoldsEverywhere(t *testing.T) {
	all := everyClause()
	if len(all) < 300 {
		t.Fatalf("only %d clauses", len(all))
	}
	for _, c := range all {
		for _, v := range versions() {
			if pyspec.Holds(c, v) != wantedHolds(c, v) {
				t.Errorf("Holds(%+v, %q) = %v", c, v, !wantedHolds(c, v))
			}
		}
	}
}

// P10.4
func TestPre(t *testing.T) {
	lets := []string{"~=", "==", "<=", ">="}
	for _, op := range signs() {
		for _, v := range []string{"1.0a1", "1.0b", "1.0-RC.2", "1.0.dev0", "1.0.post1.dev2", "2!1.0a1.post1", "v1.0c"} {
			want := slices.Contains(lets, op)
			c := one(op, v)
			for _, l := range [][]api.PyClause{{c}, {one("<", "2"), c}, {c, one("!=", "1.0")}, {{}, c, one("===", "x")}, append(unread(), c)} {
				if pyspec.Pre(l) != want {
					t.Errorf("Pre(%+v) = %v", l, !want)
				}
			}
		}
		for _, v := range []string{"1.0", "0.0", "1.0.post1", "2!1.0", "v1.0-1"} {
			if l := []api.PyClause{one(op, v), starred(op, v)}; pyspec.Pre(l) {
				t.Errorf("Pre(%+v)", l)
			}
		}
	}
	if !pyspec.Pre([]api.PyClause{one("==", "1.0a1+x")}) || pyspec.Pre([]api.PyClause{one("==", "1.0+a1")}) || pyspec.Pre([]api.PyClause{one("!=", "1.0a1+x")}) {
		t.Error("local parts")
	}
	if pyspec.Pre(nil) || pyspec.Pre([]api.PyClause{}) || pyspec.Pre(unread()) {
		t.Error("no clauses, or such that no text is read as")
	}
	if l := slices.Repeat([]api.PyClause{one(">=", "1.0")}, 500); pyspec.Pre(l) || !pyspec.Pre(append(l, one(">=", "1.0a1"))) {
		t.Error("many clauses")
	}
}

// P10.5
func TestMatch(t *testing.T) {
	for spec, l := range map[string][2]string{
		"":                       {"0 1.0 1.0.post1 1!2+a", "1.0a1 1.0.dev1 0.dev0 1.post1.dev1"},
		" \t":                    {"1", "1a1"},
		">=1.0, !=1.5.*, <2":     {"1.0 1.4 1.6.post1 1.4+x", "1.5 1.5.3 2.0a1 2.0 0.9 1.6a1 1.5a1"},
		"~=1.4.2":                {"1.4.2 1.4.9", "1.5 1.4.5a1 1.4.1"},
		"==1.1":                  {"1.1.0+local 1.1", "1.1.1 1.1a1"},
		">1.7":                   {"1.7.1 1.7.1+a", "1.7 1.7.0.post1 1.8a1"},
		">=2.0a1":                {"2.0a1 2.0b1 2.0 2.1.dev0 3", "2.0a0 1.9"},
		"<=2.0a1":                {"2.0a1 2.0.dev1 1.9b1 1.9", "2.0b1 2.0"},
		"==2.0a1":                {"2.0a1 2.0a1+x", "2.0 2.0b1"},
		"~=2.0a1":                {"2.0a1 2.5.dev1 2.1", "3.0a1"},
		"<2.0a1":                 {"1.9", "1.9a1 2.0.dev1 2.0a0"},
		">2.0a1":                 {"2.0 2.1", "2.0a2 2.1.dev1"},
		"!=2.0a1":                {"2.0 1.0", "2.0b1 2.0a1"},
		"===2.0a1":               {"", "2.0a1 2.0"},
		"===2.0a1,>=1.dev0":      {"2.0A1", "2.0a2"},
		"==2.*":                  {"2.0 2.5", "2.0a1 2.1.dev0 3"},
		"<2, >=1.0.dev0":         {"1.0a1 1.5b1 1.9", "2.0a1 0.9 2"},
		">=1.0.dev0,<2":          {"1.0a1 1.5b1 1.9", "2.0a1 0.9 2"},
		"!=1.5,!=1.5a1,==1.5a1":  {"", "1.5 1.5a1 1.5b1"},
		">=1,<=1":                {"1 1.0+a", "1.0.post1 1.0a1 1.1"},
		">=1,<1":                 {"", "1 0 2 1a1"},
		"===1.0":                 {"1.0", "1 1.0.0"},
		"==1.0+a,>=1":            {"1.0+a", "1.0 1.0+b"},
		"x":                      {"", "x 1 1.0"},
		"=1":                     {"", "1 0"},
		"<9,":                    {"", "1 0"},
		",":                      {"", "1 0"},
		"~=1":                    {"", "1 1.5"},
		">=1.*":                  {"", "1 1.5"},
		strings.Repeat(" ", 257): {"", "1 0"},
	} {
		for wanted, texts := range map[bool]string{true: l[0], false: l[1]} {
			for _, v := range strings.Fields(texts) {
				if pyspec.Match(spec, v) != wanted {
					t.Errorf("Match(%q, %q) = %v", spec, v, !wanted)
				}
			}
		}
		for _, none := range noVersions() {
			if pyspec.Match(spec, none) {
				t.Errorf("Match(%q, %q)", spec, none)
			}
		}
	}
	for _, none := range noVersions() {
		if pyspec.Match("==="+none, none) || pyspec.Match("!=9", none) {
			t.Errorf("%q matches", none)
		}
	}
}

// P10.5 by its words, of texts of two clauses.
func TestMatchEverywhere(t *testing.T) {
	for _, l := range checks.Lists(thinned(7), 2) {
		spec := pyspec.Format(l)
		for _, v := range versions() {
			want := !isPre(v) || slices.ContainsFunc(l, func(c api.PyClause) bool {
				return slices.Contains([]string{"~=", "==", "<=", ">="}, c.Op) && !c.Star && isPre(c.Ver)
			})
			for _, c := range l {
				want = want && wantedHolds(c, v)
			}
			if pyspec.Match(spec, v) != want {
				t.Errorf("Match(%q, %q) = %v", spec, v, !want)
			}
		}
	}
}

// P10.6
func TestPick(t *testing.T) {
	for _, c := range []struct {
		spec, l, want string
		ok            bool
	}{
		{"", "", "", false}, {"<9", "", "", false}, {"<1", "1 2 3", "", false}, {"x", "1 2 3", "", false}, {"<1,", "0", "", false},
		{"", "1 3 2", "3", true}, {"", "1 3a1 2", "2", true}, {"", "3a1 3.dev1", "", false}, {">=1", "0 1.2 1.10 1.9 0.99", "1.10", true}, {">=1,<1.10", "0 1.2 1.10 1.9 0.99", "1.9", true}, {">=1.0a1", "1 1.1b1 1.1a2 0", "1.1b1", true},
		{"", "1.0 1 1.0.0", "1.0", true}, {"", "1 1.0 1.0.0", "1", true}, {"<2", "v1 2 1.0 01 2.0", "v1", true}, {"==1.0", "0 1 1.0 1.0+a 1+A 1.0+1 01+1", "1.0+1", true}, {"", "1 1!0 9", "1!0", true}, {"==1.0+a", "1.0+a 1.0+A", "1.0+a", true},
		{"===1.0", "1 1.0.0 1.0", "1.0", true}, {"", "x 1 y", "1", true}, {"", "x y", "", false}, {"!=9", "x 1. v", "", false}, {">=1", "zz 2 99x", "2", true}, {"~=1.4", "1.5 1.5.post1 2.0 1.4.99", "1.5.post1", true},
	} {
		if got, ok := pyspec.Pick(c.spec, strings.Fields(c.l)); got != c.want || ok != c.ok {
			t.Errorf("Pick(%q, %q) = %q, %v", c.spec, c.l, got, ok)
		}
	}
	if got, ok := pyspec.Pick("", nil); got != "" || ok {
		t.Error("Pick of nil")
	}
	if got, ok := pyspec.Pick("<2", []string{"", " ", "1.0", " 1.5"}); got != "1.0" || !ok {
		t.Errorf("Pick = %q, %v", got, ok)
	}
}

// Rules 0.5 and 0.8: what is handed in stays as it was, and its spare room plays no part.
func TestArgumentsStay(t *testing.T) {
	for _, room := range [][]api.PyClause{
		{one(">=", "1.0"), starred("==", "1.0"), one("===", "X"), one(">=", "2.0a1"), {}},
		{one(">=", "01.0A1"), one("", "x"), starred("<", "1"), {}, one("==", "1.0a1")},
	} {
		kept := slices.Clone(room)
		for n := range len(room) {
			text, lets := pyspec.Format(room[:n]), pyspec.Pre(room[:n])
			if fresh := slices.Clone(kept[:n]); text != pyspec.Format(fresh) || lets != pyspec.Pre(fresh) || !slices.Equal(room, kept) {
				t.Errorf("%+v is now %+v, or what is behind %d plays a part", kept, room, n)
			}
		}
	}
	room := []string{"1.0", "v1.5", "1.2", "x", "1.9", "1.8"}
	kept := slices.Clone(room)
	if got, ok := pyspec.Pick(">=1", room[:4]); got != "v1.5" || !ok || !slices.Equal(room, kept) {
		t.Errorf("Pick = %q, %v of %q", got, ok, room)
	}
}
