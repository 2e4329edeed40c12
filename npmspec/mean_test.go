package npmspec_test

import (
	"strings"
	"testing"

	"dovetail/api"
	"dovetail/npmspec"
)

// row is what partials that mean the same mean behind each operator.
type row struct {
	partials                                    []string
	equal, less, upTo, more, from, tilde, caret string
}

const none = "<0.0.0-0"

// rows is the chapter's table of what a part means, told of partials of each kind.
func rows() []row {
	nines, round := strings.Repeat("9", 48), "1"+strings.Repeat("0", 48)
	return []row{
		{[]string{"1.2.3", "1.2.3+b", "1.2.3+b.01"}, "1.2.3", "<1.2.3", "<=1.2.3", ">1.2.3", ">=1.2.3", ">=1.2.3 <1.3.0-0", ">=1.2.3 <2.0.0-0"},
		{[]string{"1.2.3-b.1", "1.2.3-b.1+x"}, "1.2.3-b.1", "<1.2.3-b.1", "<=1.2.3-b.1", ">1.2.3-b.1", ">=1.2.3-b.1", ">=1.2.3-b.1 <1.3.0-0", ">=1.2.3-b.1 <2.0.0-0"},
		{[]string{"1.2.0"}, "1.2.0", "<1.2.0", "<=1.2.0", ">1.2.0", ">=1.2.0", ">=1.2.0 <1.3.0-0", ">=1.2.0 <2.0.0-0"},
		{[]string{"1.0.0"}, "1.0.0", "<1.0.0", "<=1.0.0", ">1.0.0", ">=1.0.0", ">=1.0.0 <1.1.0-0", ">=1.0.0 <2.0.0-0"},
		{[]string{"0.2.3"}, "0.2.3", "<0.2.3", "<=0.2.3", ">0.2.3", ">=0.2.3", ">=0.2.3 <0.3.0-0", ">=0.2.3 <0.3.0-0"},
		{[]string{"0.9.0"}, "0.9.0", "<0.9.0", "<=0.9.0", ">0.9.0", ">=0.9.0", ">=0.9.0 <0.10.0-0", ">=0.9.0 <0.10.0-0"},
		{[]string{"0.0.9-0"}, "0.0.9-0", "<0.0.9-0", "<=0.0.9-0", ">0.0.9-0", ">=0.0.9-0", ">=0.0.9-0 <0.1.0-0", ">=0.0.9-0 <0.0.10-0"},
		{[]string{"0.0.0", "0.0.0+0"}, "0.0.0", "<0.0.0", "<=0.0.0", ">0.0.0", ">=0.0.0", ">=0.0.0 <0.1.0-0", ">=0.0.0 <0.0.1-0"},
		{[]string{"1.2", "1.2.x", "1.2.X", "1.2.*"}, ">=1.2.0 <1.3.0-0", "<1.2.0-0", "<1.3.0-0", ">=1.3.0", ">=1.2.0", ">=1.2.0 <1.3.0-0", ">=1.2.0 <2.0.0-0"},
		{[]string{"1.0", "1.0.*"}, ">=1.0.0 <1.1.0-0", "<1.0.0-0", "<1.1.0-0", ">=1.1.0", ">=1.0.0", ">=1.0.0 <1.1.0-0", ">=1.0.0 <2.0.0-0"},
		{[]string{"0.2", "0.2.x"}, ">=0.2.0 <0.3.0-0", "<0.2.0-0", "<0.3.0-0", ">=0.3.0", ">=0.2.0", ">=0.2.0 <0.3.0-0", ">=0.2.0 <0.3.0-0"},
		{[]string{"0.0", "0.0.X"}, ">=0.0.0 <0.1.0-0", none, "<0.1.0-0", ">=0.1.0", ">=0.0.0", ">=0.0.0 <0.1.0-0", ">=0.0.0 <0.1.0-0"},
		{[]string{"9", "9.x", "9.X", "9.*", "9.x.x", "9.x.3", "9.*.0"}, ">=9.0.0 <10.0.0-0", "<9.0.0-0", "<10.0.0-0", ">=10.0.0", ">=9.0.0", ">=9.0.0 <10.0.0-0", ">=9.0.0 <10.0.0-0"},
		{[]string{"0", "0.x", "0.X.1", "0.*.*"}, ">=0.0.0 <1.0.0-0", none, "<1.0.0-0", ">=1.0.0", ">=0.0.0", ">=0.0.0 <1.0.0-0", ">=0.0.0 <1.0.0-0"},
		{[]string{"x", "X", "*", "x.1", "*.x", "X.1.2", "x.x.x", "*.*.7"}, "*", none, "*", none, "*", "*", "*"},
		{[]string{nines}, ">=" + nines + ".0.0 <" + round + ".0.0-0", "<" + nines + ".0.0-0", "<" + round + ".0.0-0", ">=" + round + ".0.0", ">=" + nines + ".0.0", ">=" + nines + ".0.0 <" + round + ".0.0-0", ">=" + nines + ".0.0 <" + round + ".0.0-0"},
	}
}

// signs is each operator with what a row says of it.
func signs(r row) map[string]string {
	return map[string]string{"": r.equal, "=": r.equal, "<": r.less, "<=": r.upTo, ">": r.more, ">=": r.from, "~": r.tilde, "~>": r.tilde, "^": r.caret}
}

// means checks what a text is read as.
func means(t *testing.T, s, want string) {
	t.Helper()
	l, f := npmspec.Parse(s)
	if got := npmspec.Format(l); f != (api.Fault{}) || got != want {
		t.Errorf("Parse(%q) = %q, %v, not %q", s, got, f, want)
	}
}

// P8.1: each operator ahead of partials of each kind.
func TestParts(t *testing.T) {
	for _, r := range rows() {
		for sign, want := range signs(r) {
			for _, p := range r.partials {
				for _, s := range []string{sign + p, sign + " " + p, sign + "\t \t" + p, " " + sign + p, "\t" + sign + p + " \t"} {
					means(t, s, want)
				}
				if len(p) < api.MaxPart {
					means(t, sign+"v"+p, want)
					means(t, sign+" v"+p, want)
				}
			}
		}
	}
}

// together is two rows of comparators as one set.
func together(a, b string) string {
	switch {
	case a == "*":
		return b
	case b == "*":
		return a
	}
	return a + " " + b
}

// P8.1: a from-to is what >= and <= say of its ends.
func TestFromTo(t *testing.T) {
	for _, from := range rows() {
		for _, to := range rows() {
			for _, p := range from.partials {
				for _, q := range to.partials {
					want := together(from.from, to.upTo)
					for _, s := range []string{p + " - " + q, " " + p + "\t-\t" + q + "\t", p + "  -\t " + q + " "} {
						means(t, s, want)
					}
					means(t, q+"||"+p+" - "+q+"||"+p, to.equal+" || "+want+" || "+from.equal)
				}
			}
		}
	}
	means(t, "v1.2.3-a-b+c - v2", ">=1.2.3-a-b <3.0.0-0")
	means(t, "1.2.3 - 2.3", ">=1.2.3 <2.4.0-0")
}

// P8.1: parts are one set's comparators, in order; bars make sets.
func TestRowsOfParts(t *testing.T) {
	for s, want := range map[string]string{
		"": "*", " ": "*", "\t \t": "*", "||": "* || *", " || ": "* || *", "||||": "* || * || *", "1.2.3||": "1.2.3 || *", "||1.2.3": "* || 1.2.3",
		">=1 <2": ">=1.0.0 <2.0.0-0", ">1.2.3\t<=2.0.0": ">1.2.3 <=2.0.0", "<2.0.0   >1.0.0": "<2.0.0 >1.0.0", "> 1.2.3 <= 2.0.0": ">1.2.3 <=2.0.0",
		"1.2.3 1.2.3": "1.2.3 1.2.3", "* 1.2.3 x": "1.2.3", "1.2.3 *": "1.2.3", "* * *": "*", ">* 1.2.3 <*": "<0.0.0-0 1.2.3 <0.0.0-0",
		"~1.2 ^1.2.3 =1.2.4": ">=1.2.0 <1.3.0-0 >=1.2.3 <2.0.0-0 1.2.4", "1 2 3": ">=1.0.0 <2.0.0-0 >=2.0.0 <3.0.0-0 >=3.0.0 <4.0.0-0",
		"1.2.3||2.0.0": "1.2.3 || 2.0.0", "1.2.3 || 2.0.0": "1.2.3 || 2.0.0", "\t1.2.3\t||\t2.0.0\t": "1.2.3 || 2.0.0", "1.2.3||||2.0.0": "1.2.3 || * || 2.0.0",
		"^1||>=2.0.0 <3||1 - 2": ">=1.0.0 <2.0.0-0 || >=2.0.0 <3.0.0-0 || >=1.0.0 <3.0.0-0", "*||*": "* || *", "<*||1.2.3-x": "<0.0.0-0 || 1.2.3-x",
		"1.2.3-x+y||2.0.0+z": "1.2.3-x || 2.0.0", "~>1.2||~> 1.2": ">=1.2.0 <1.3.0-0 || >=1.2.0 <1.3.0-0", "1.2.3-01a": "1.2.3-01a", "1.2.3--": "1.2.3--", "1.2.3---.-": "1.2.3---.-", "1.2.3-x-1 - 2.0.0": ">=1.2.3-x-1 <=2.0.0",
	} {
		means(t, s, want)
	}
}

// P8.1: comparators as they are told, their versions without Build.
func TestComparators(t *testing.T) {
	l, f := npmspec.Parse("^1.2.3-rc.1+x || <=2 =4.0.0+y")
	if f != (api.Fault{}) || len(l) != 2 || len(l[0]) != 2 || len(l[1]) != 2 {
		t.Fatalf("Parse = %v, %v", l, f)
	}
	for i, want := range []api.NpmComp{
		{Op: api.CoFrom, Ver: api.Sem{Major: "1", Minor: "2", Patch: "3", Pre: []string{"rc", "1"}}},
		{Op: api.CoLess, Ver: api.Sem{Major: "2", Minor: "0", Patch: "0", Pre: []string{"0"}}},
		{Op: api.CoLess, Ver: api.Sem{Major: "3", Minor: "0", Patch: "0", Pre: []string{"0"}}},
		{Op: api.CoEqual, Ver: api.Sem{Major: "4", Minor: "0", Patch: "0"}},
	} {
		if got := l[i/2][i%2]; !alike(got, want) {
			t.Errorf("comparator %d is %v, not %v", i, got, want)
		}
	}
}
