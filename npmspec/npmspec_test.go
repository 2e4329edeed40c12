package npmspec_test

import (
	"math"
	"slices"
	"strings"
	"testing"

	"dovetail/api"
	"dovetail/npmspec"
	"dovetail/semver"
)

// sem is a version from its text.
func sem(t *testing.T, s string) api.Sem {
	t.Helper()
	v, f := semver.Parse(s)
	if f != (api.Fault{}) {
		t.Fatalf("%q is no version: %v", s, f)
	}
	return v
}

// comp is a comparator from its Op and its version's text.
func comp(t *testing.T, op int, s string) api.NpmComp {
	t.Helper()
	return api.NpmComp{Op: op, Ver: sem(t, s)}
}

// alike holds comparators against each other, nil and empty lists being the same.
func alike(a, b api.NpmComp) bool {
	return a.Op == b.Op && a.Ver.Major == b.Ver.Major && a.Ver.Minor == b.Ver.Minor && a.Ver.Patch == b.Ver.Patch && slices.Equal(a.Ver.Pre, b.Ver.Pre) && slices.Equal(a.Ver.Build, b.Ver.Build)
}

func sameSets(a, b [][]api.NpmComp) bool {
	return slices.EqualFunc(a, b, func(x, y []api.NpmComp) bool { return slices.EqualFunc(x, y, alike) })
}

// noOps is numbers that are no operator of a comparator.
func noOps() []int {
	return []int{0, api.NumCos, -1, 256 + api.CoLess, math.MaxInt, math.MinInt}
}

// unfit is versions that are none.
func unfit() []api.Sem {
	return []api.Sem{
		{}, {Major: "1"}, {Major: "1", Minor: "2"}, {Major: "01", Minor: "2", Patch: "3"}, {Major: "1", Minor: "x", Patch: "3"}, {Major: "1", Minor: "2", Patch: "-3"},
		{Major: "1", Minor: "2", Patch: "3", Pre: []string{""}}, {Major: "1", Minor: "2", Patch: "3", Pre: []string{"01"}}, {Major: "1", Minor: "2", Patch: "3", Build: []string{"_"}}, {Major: strings.Repeat("9", 61), Minor: "2", Patch: "3"},
	}
}

// P8.2
func TestFormat(t *testing.T) {
	for _, c := range []struct {
		l    [][]api.NpmComp
		want string
	}{
		{nil, ""}, {[][]api.NpmComp{}, ""}, {[][]api.NpmComp{nil}, "*"}, {[][]api.NpmComp{{}}, "*"}, {[][]api.NpmComp{nil, {}}, "* || *"},
		{[][]api.NpmComp{{comp(t, api.CoLess, "1.2.3")}}, "<1.2.3"}, {[][]api.NpmComp{{comp(t, api.CoUpTo, "1.2.3")}}, "<=1.2.3"}, {[][]api.NpmComp{{comp(t, api.CoMore, "1.2.3")}}, ">1.2.3"}, {[][]api.NpmComp{{comp(t, api.CoFrom, "1.2.3")}}, ">=1.2.3"}, {[][]api.NpmComp{{comp(t, api.CoEqual, "1.2.3-a.0")}}, "1.2.3-a.0"},
		{[][]api.NpmComp{{comp(t, api.CoMore, "1.0.0-0"), comp(t, api.CoEqual, "2.0.0"), comp(t, api.CoLess, "0.0.0")}}, ">1.0.0-0 2.0.0 <0.0.0"},
		{[][]api.NpmComp{{comp(t, api.CoEqual, "1.0.0")}, nil, {comp(t, api.CoFrom, "2.0.0"), comp(t, api.CoUpTo, "3.0.0")}}, "1.0.0 || * || >=2.0.0 <=3.0.0"},
		{slices.Repeat([][]api.NpmComp{{comp(t, api.CoEqual, "1.0.0")}}, 40), strings.Repeat("1.0.0 || ", 39) + "1.0.0"},
		{[][]api.NpmComp{slices.Repeat([]api.NpmComp{comp(t, api.CoLess, "1.0.0")}, 70)}, strings.Repeat("<1.0.0 ", 69) + "<1.0.0"},
		{[][]api.NpmComp{{comp(t, api.CoFrom, strings.Repeat("9", 60)+".0.0")}}, ">=" + strings.Repeat("9", 60) + ".0.0"},
		{[][]api.NpmComp{{{Op: api.CoLess, Ver: api.Sem{Major: "1", Minor: "0", Patch: "0", Pre: []string{}, Build: []string{}}}}}, "<1.0.0"},
	} {
		if got := npmspec.Format(c.l); got != c.want {
			t.Errorf("Format(%v) = %q, not %q", c.l, got, c.want)
		}
	}
}

// P8.2: of what can't be written, wherever it stands.
func TestFormatOfNone(t *testing.T) {
	bad := []api.NpmComp{comp(t, api.CoLess, "1.0.0+b"), comp(t, api.CoEqual, "1.0.0-a+b")}
	for _, op := range noOps() {
		bad = append(bad, comp(t, op, "1.0.0"))
	}
	for _, v := range unfit() {
		bad = append(bad, api.NpmComp{Op: api.CoEqual, Ver: v}, api.NpmComp{Op: api.CoLess, Ver: v})
	}
	good := comp(t, api.CoLess, "1.0.0")
	for _, b := range bad {
		for _, l := range [][][]api.NpmComp{{{b}}, {{good, b}}, {{b, good}}, {{good}, {b}}, {{b}, {good}}, {nil, {b}}, {{b}, nil}} {
			if got := npmspec.Format(l); got != "" {
				t.Errorf("Format(%v) = %q", l, got)
			}
		}
	}
}

// P8.3
func TestHolds(t *testing.T) {
	ladder := []string{"0.0.0-0", "0.0.0", "0.9.0", "0.10.0", "1.0.0-1", "1.0.0-a", "1.0.0", "1.0.1", "18446744073709551616.0.0"}
	for i, wanted := range ladder {
		for j, s := range ladder {
			for _, build := range []string{"", "+b"} {
				v := sem(t, s+build)
				for op, want := range map[int]bool{api.CoLess: j < i, api.CoUpTo: j <= i, api.CoMore: j > i, api.CoFrom: j >= i, api.CoEqual: j == i} {
					if npmspec.Holds(comp(t, op, wanted), v) != want || npmspec.Holds(comp(t, op, wanted+"+x"), v) != want {
						t.Errorf("Holds({%d %q}, %q) is not %v", op, wanted, s+build, want)
					}
				}
				for _, op := range noOps() {
					if npmspec.Holds(comp(t, op, wanted), v) {
						t.Errorf("Holds({%d %q}, %q)", op, wanted, s)
					}
				}
			}
		}
	}
	for _, bad := range unfit() {
		for op := range api.NumCos {
			if npmspec.Holds(api.NpmComp{Op: op, Ver: bad}, sem(t, "1.2.3")) || npmspec.Holds(comp(t, op, "1.2.3"), bad) || npmspec.Holds(api.NpmComp{Op: op, Ver: bad}, bad) {
				t.Errorf("%d holds of %v", op, bad)
			}
		}
	}
}

// P8.4
func TestSet(t *testing.T) {
	from, below, equal := api.CoFrom, api.CoLess, api.CoEqual
	for _, c := range []struct {
		l    []api.NpmComp
		v    string
		want bool
	}{
		{nil, "1.0.0", true}, {nil, "1.0.0+b", true}, {nil, "1.0.0-a", false}, {nil, "0.0.0-0", false},
		{[]api.NpmComp{comp(t, from, "1.0.0")}, "1.0.0", true}, {[]api.NpmComp{comp(t, from, "1.0.0")}, "0.9.9", false}, {[]api.NpmComp{comp(t, from, "1.0.0")}, "1.0.1-a", false}, {[]api.NpmComp{comp(t, from, "1.0.0")}, "2.0.0", true},
		{[]api.NpmComp{comp(t, from, "1.0.0"), comp(t, below, "2.0.0")}, "1.9.9", true}, {[]api.NpmComp{comp(t, from, "1.0.0"), comp(t, below, "2.0.0")}, "2.0.0", false}, {[]api.NpmComp{comp(t, from, "1.0.0"), comp(t, below, "2.0.0")}, "0.1.0", false}, {[]api.NpmComp{comp(t, below, "2.0.0"), comp(t, from, "1.0.0")}, "0.1.0", false},
		{[]api.NpmComp{comp(t, from, "1.2.3-b")}, "1.2.3-b", true}, {[]api.NpmComp{comp(t, from, "1.2.3-b")}, "1.2.3-c", true}, {[]api.NpmComp{comp(t, from, "1.2.3-b")}, "1.2.3-a", false}, {[]api.NpmComp{comp(t, from, "1.2.3-b")}, "1.2.3", true}, {[]api.NpmComp{comp(t, from, "1.2.3-b")}, "1.2.3-c+b", true},
		{[]api.NpmComp{comp(t, from, "1.2.3-b")}, "1.2.4-b", false}, {[]api.NpmComp{comp(t, from, "1.2.3-b")}, "1.3.3-b", false}, {[]api.NpmComp{comp(t, from, "1.2.3-b")}, "2.2.3-b", false}, {[]api.NpmComp{comp(t, from, "1.2.3-b")}, "1.2.4", true},
		{[]api.NpmComp{comp(t, from, "1.0.0"), comp(t, below, "2.0.0-b")}, "2.0.0-a", true}, {[]api.NpmComp{comp(t, from, "1.0.0"), comp(t, below, "2.0.0-b")}, "1.9.0-a", false}, {[]api.NpmComp{comp(t, below, "2.0.0-b"), comp(t, from, "1.0.0")}, "2.0.0-a", true}, {[]api.NpmComp{comp(t, below, "2.0.0-b"), comp(t, from, "2.0.0-a")}, "2.0.0-a.1", true},
		{[]api.NpmComp{comp(t, from, "1.2.3"), comp(t, from, "1.2.2-a")}, "1.2.4-a", false}, {[]api.NpmComp{comp(t, from, "1.2.2-a"), comp(t, from, "1.2.2")}, "1.2.3-a", false}, {[]api.NpmComp{comp(t, from, "1.2.3-a"), comp(t, below, "1.2.3")}, "1.2.3-z", true},
		{[]api.NpmComp{comp(t, equal, "1.2.3")}, "1.2.3", true}, {[]api.NpmComp{comp(t, equal, "1.2.3")}, "1.2.3+b", true}, {[]api.NpmComp{comp(t, equal, "1.2.3-a")}, "1.2.3-a", true}, {[]api.NpmComp{comp(t, equal, "1.2.3-a")}, "1.2.3", false}, {[]api.NpmComp{comp(t, equal, "1.2.3")}, "1.2.3-a", false},
		{[]api.NpmComp{comp(t, from, "1.0.0"), comp(t, 0, "1.0.0")}, "1.0.0", false}, {[]api.NpmComp{comp(t, api.NumCos, "1.0.0")}, "1.0.0", false}, {[]api.NpmComp{comp(t, 0, "1.0.0-a"), comp(t, from, "1.0.0-a")}, "1.0.0-b", false},
		{[]api.NpmComp{{Op: from}}, "1.0.0", false}, {[]api.NpmComp{comp(t, from, "1.0.0"), {Op: equal, Ver: api.Sem{Major: "01", Minor: "0", Patch: "0"}}}, "1.0.0", false},
		{[]api.NpmComp{comp(t, from, "1.2.3+b")}, "1.2.3", true}, {[]api.NpmComp{comp(t, from, "1.2.3-a+b")}, "1.2.3-a", true}, {[]api.NpmComp{comp(t, from, "1.2.3+b")}, "1.2.4-b", false},
	} {
		if got := npmspec.Set(c.l, sem(t, c.v)); got != c.want {
			t.Errorf("Set(%v, %q) = %v", c.l, c.v, got)
		}
	}
	for _, bad := range unfit() {
		if npmspec.Set(nil, bad) || npmspec.Set([]api.NpmComp{{Op: equal, Ver: bad}}, bad) || npmspec.Set([]api.NpmComp{comp(t, from, "0.0.0")}, bad) {
			t.Errorf("%v is in a set", bad)
		}
	}
}

// P8.5
func TestMatch(t *testing.T) {
	for _, c := range []struct {
		spec, version string
		want          bool
	}{
		{"^1.2.3-beta.2", "1.2.3-beta.4", true}, {"^1.2.3-beta.2", "1.3.0-beta", false}, {"^1.2.3-beta.2", "1.2.3", true}, {"^1.2.3-beta.2", "1.9.0", true}, {"^1.2.3-beta.2", "2.0.0", false}, {"^1.2.3-beta.2", "2.0.0-0", false},
		{"", "1.2.3", true}, {"*", "0.0.0", true}, {"*", "1.0.0-a", false}, {"", "1.0.0-a", false}, {"||", "1.2.3", true}, {">*", "0.0.0", false}, {"<*", "0.0.0-0", false}, {"<*", "0.0.0", false}, {">*||1", "1.5.0", true},
		{"1 || 3", "1.5.0", true}, {"1 || 3", "2.5.0", false}, {"1 || 3", "3.5.0", true}, {">=1 <2", "1.5.0+b", true}, {"1.2.3-a || 2", "2.0.0-a", false}, {"1.2.3-a || 2", "1.2.3-a", true}, {"1.2.4 || >=1.2.3-a", "1.2.4-a", false},
		{"<2", "2.0.0-0", false}, {"<2", "2.0.0-a", false}, {"<2.0.0", "2.0.0-a", false}, {"<2.0.0-b", "2.0.0-a", true}, {"1 - 2", "2.9.9", true}, {"1 - 2", "3.0.0-0", false}, {"=1.2.3", "1.2.3+x", true},
		{"^", "1.2.3", false}, {"1.02", "1.2.0", false}, {"!", "1.2.3", false}, {strings.Repeat(" ", 257), "1.2.3", false}, {strings.Repeat(" ", 256), "1.2.3", true},
		{"*", "", false}, {"*", "1.2", false}, {"*", "v1.2.3", false}, {"*", " 1.2.3", false}, {"*", "1.2.3 ", false}, {"*", "01.2.3", false}, {"*", strings.Repeat("9", 61) + ".0.0", false}, {"*", strings.Repeat("9", 60) + ".0.0", true}, {"!", "!", false},
	} {
		if got := npmspec.Match(c.spec, c.version); got != c.want {
			t.Errorf("Match(%q, %q) = %v", c.spec, c.version, got)
		}
	}
}

// P8.6
func TestPick(t *testing.T) {
	for _, c := range []struct {
		spec string
		l    []string
		want string
		ok   bool
	}{
		{"*", nil, "", false}, {"*", []string{}, "", false}, {"*", []string{"1.0.0"}, "1.0.0", true}, {"^1", []string{"2.0.0", "0.9.0"}, "", false},
		{"^1", []string{"1.9.0", "1.10.0", "1.2.0", "2.0.0"}, "1.10.0", true}, {"^1", []string{"1.10.0", "1.9.0"}, "1.10.0", true}, {"^1", []string{"1.2.0", "1.10.0-a", "1.3.0"}, "1.3.0", true}, {"1 || 3", []string{"1.0.0", "2.0.0", "3.0.0-a"}, "1.0.0", true},
		{"*", []string{"1.0.0+a", "1.0.0+b", "1.0.0"}, "1.0.0+a", true}, {"*", []string{"0.9.0", "1.0.0", "1.0.0+b", "0.1.0"}, "1.0.0", true}, {"*", []string{"1.0.0+b", "1.0.1+z", "1.0.1+a"}, "1.0.1+z", true}, {">=1.0.0-a", []string{"1.0.0-b", "1.0.0-a", "1.0.0-c+1", "1.0.0-c"}, "1.0.0-c+1", true},
		{"*", []string{"", "x", "1", "1.2", "v9.0.0", "1.0.0", "9.0.0 ", "09.0.0"}, "1.0.0", true}, {"*", []string{"", "x", "v1.2.3"}, "", false}, {"*", []string{"1.0.0-a"}, "", false}, {"", []string{"0.0.0"}, "0.0.0", true},
		{"^", []string{"1.0.0"}, "", false}, {"1.02", []string{"1.2.0", "x"}, "", false}, {">*", []string{"1.0.0", "0.0.0-0"}, "", false},
		{"*", []string{"9223372036854775807.0.0", "18446744073709551616.0.0", "9.0.0"}, "18446744073709551616.0.0", true},
	} {
		if got, ok := npmspec.Pick(c.spec, c.l); got != c.want || ok != c.ok {
			t.Errorf("Pick(%q, %q) = %q, %v", c.spec, c.l, got, ok)
		}
	}
}

// P8.7
func TestValid(t *testing.T) {
	for s, want := range map[string]bool{"": true, "*": true, "^1.2.3 || 2 - 3": true, "^": false, "1.02": false, "1 |": false, "1.2.3-01": false, strings.Repeat(" ", 256): true, strings.Repeat(" ", 257): false, strings.Repeat("9", 48): true, strings.Repeat("9", 49): false} {
		if npmspec.Valid(s) != want {
			t.Errorf("Valid(%q) is not %v", s, want)
		}
	}
}

// Rule 0.5: what is handed in stays, with what lies in its spare room.
func TestListsStay(t *testing.T) {
	ids := []string{"b", "1", "spare", "room"}
	comps := []api.NpmComp{{Op: api.CoFrom, Ver: api.Sem{Major: "1", Minor: "0", Patch: "0", Pre: ids[:1]}}, {Op: api.CoLess, Ver: api.Sem{Major: "2", Minor: "0", Patch: "0", Pre: ids[:2]}}, {Op: 77}}
	sets := [][]api.NpmComp{comps[:1], comps[:2], comps}
	v := api.Sem{Major: "1", Minor: "0", Patch: "0", Pre: ids[:2]}
	npmspec.Format(sets[:2])
	npmspec.Format(sets)
	npmspec.Set(comps[:2], v)
	npmspec.Holds(comps[0], v)
	versions := []string{"1.5.0", "1.0.0", "x", "1.7.0", "spare"}
	npmspec.Pick("^1", versions[:4])
	if !slices.Equal(ids, []string{"b", "1", "spare", "room"}) || !slices.Equal(versions, []string{"1.5.0", "1.0.0", "x", "1.7.0", "spare"}) || len(sets[0]) != 1 || len(sets[1]) != 2 || comps[2].Op != 77 || comps[0].Ver.Major != "1" || comps[1].Ver.Major != "2" {
		t.Errorf("they are now %q, %v, %q", ids, sets, versions)
	}
}

// Rule 0.5: answers are memory of their own, and no two lists of one share any.
func TestAnswersAreNew(t *testing.T) {
	for _, spec := range []string{"^1.2.3-a ~1.2.3-a || ^1.2.3-a", "<1 <2 >* || <* || 1 - 2", "1.2.3-a - 1.2.3-b || 0.x 1"} {
		want, _ := npmspec.Parse(spec)
		for i := range want {
			for j := range want[i] {
				l, _ := npmspec.Parse(spec)
				clear(l[i][j].Ver.Pre)
				_ = append(l[i][j].Ver.Pre, "spoilt")
				l[i][j] = want[i][j]
				_ = append(l[i], api.NpmComp{})
				if !sameSets(l, want) {
					t.Errorf("Parse(%q): another list is that of %d %d: %v", spec, i, j, l)
				}
			}
		}
	}
}
