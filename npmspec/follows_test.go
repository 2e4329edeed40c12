package npmspec_test

import (
	"slices"
	"strings"
	"testing"

	"dovetail/api"
	"dovetail/checks"
	"dovetail/npmspec"
	"dovetail/semver"
)

// partials is short ones of each kind.
func partials() []string {
	var l []string
	for _, a := range []string{"0", "1", "2", "x"} {
		l = append(l, a)
		for _, b := range []string{"0", "1", "*"} {
			l = append(l, a+"."+b)
			for _, c := range []string{"0", "1", "X"} {
				l = append(l, a+"."+b+"."+c)
			}
		}
	}
	return append(l, "0.0.0-a", "0.0.1-0", "0.1.0-a.1", "1.0.0-0", "1.0.0-a", "1.0.1-a+b", "1.1.0-rc.1", "2.0.0-0")
}

// versions is all with small numbers, with some Pre, in their order.
func versions() []string {
	var l []string
	for _, a := range []string{"0", "1", "2", "3"} {
		for _, b := range []string{"0", "1", "2"} {
			for _, c := range []string{"0", "1", "2"} {
				for _, pre := range []string{"-0", "-a", "-a.1", "-rc.2", ""} {
					l = append(l, a+"."+b+"."+c+pre)
				}
			}
		}
	}
	return l
}

// ranges is short ones of each kind.
func ranges() []string {
	var l []string
	for _, p := range partials() {
		for _, sign := range []string{"", "<", "<=", ">", ">=", "~", "^"} {
			l = append(l, sign+p)
		}
		l = append(l, p+" - 2.0", "0.1.0-a - "+p, ">=0.0.1-a <"+p, p+" <2 >0.0.1", "^0.1 || "+p)
	}
	return l
}

// P8.8
func TestThereAndBack(t *testing.T) {
	for _, s := range append(ranges(), "", " ", "||", strings.Repeat("||", 31), strings.Repeat("1.0.0 ", 32), strings.Repeat("9", 40)+".1.x") {
		l, _ := npmspec.Parse(s)
		text := npmspec.Format(l)
		again, f := npmspec.Parse(text)
		if text == "" || f != (api.Fault{}) || !sameSets(l, again) {
			t.Errorf("%q is written %q, which is read as %v, %v", s, text, again, f)
		}
	}
}

// P8.9
func TestEitherOr(t *testing.T) {
	specs := []string{"", "^1.0.0-a", "~0.1", "<1.1", ">* ", "2.0.0-0 - 2.1", "1 || 2.0.0-a", "=1.0.1", "* || *"}
	for _, a := range specs {
		for _, b := range specs {
			for _, v := range versions() {
				if npmspec.Match(a+"||"+b, v) != (npmspec.Match(a, v) || npmspec.Match(b, v)) {
					t.Errorf("%q is in one of %q and %q, or not", v, a, b)
				}
			}
		}
	}
}

// P8.10: carets, held against tildes and against Major.
func TestCaretsAndTildes(t *testing.T) {
	for _, p := range partials() {
		if p[0] == 'x' {
			continue
		}
		for _, s := range versions() {
			caret, tilde := npmspec.Match("^"+p, s), npmspec.Match("~"+p, s)
			if p[0] != '0' && tilde && !caret {
				t.Errorf("~%s takes %q, ^ does not", p, s)
			}
			if caret && s[0] != p[0] {
				t.Errorf("^%s takes %q", p, s)
			}
		}
	}
}

// P8.10: what is between two that a set takes.
func TestBetween(t *testing.T) {
	var plain []string
	for _, s := range versions() {
		if !strings.Contains(s, "-") {
			plain = append(plain, s)
		}
	}
	for _, wrong := range checks.Rising(plain, semver.Compare) {
		t.Fatal(wrong)
	}
	for _, spec := range ranges() {
		l, _ := npmspec.Parse(spec)
		for _, set := range l {
			in := func(s string) bool { return npmspec.Set(set, sem(t, s)) }
			first := slices.IndexFunc(plain, in)
			if first < 0 {
				continue
			}
			behind := slices.IndexFunc(plain[first:], func(s string) bool { return !in(s) })
			if behind >= 0 && slices.ContainsFunc(plain[first+behind:], in) {
				t.Errorf("%q takes %q and what is behind it, but not all between", spec, plain[first])
			}
		}
	}
}

// P8.11
func TestPreIsNotInAny(t *testing.T) {
	for _, any := range []string{"*", "", " ", "x", "X", "^*", "~x", ">=*", "<=X", "=x.1", "* - *", "* *", "*||x"} {
		for _, s := range versions() {
			if npmspec.Match(any, s) == strings.Contains(s, "-") {
				t.Errorf("Match(%q, %q)", any, s)
			}
		}
	}
}

// A version is in a set by what the chapter says of it, comparator by comparator.
func TestSetEverywhere(t *testing.T) {
	for _, spec := range ranges() {
		l, _ := npmspec.Parse(spec)
		for _, s := range versions() {
			v, in := sem(t, s), false
			for _, set := range l {
				in = in || wanted(set, v)
			}
			if npmspec.Match(spec, s) != in {
				t.Errorf("Match(%q, %q) is not %v", spec, s, in)
			}
		}
	}
}

func wanted(set []api.NpmComp, v api.Sem) bool {
	pre := false
	for _, c := range set {
		if !npmspec.Holds(c, v) {
			return false
		}
		if len(c.Ver.Pre) > 0 && slices.Equal([]string{c.Ver.Major, c.Ver.Minor, c.Ver.Patch}, []string{v.Major, v.Minor, v.Patch}) {
			pre = true
		}
	}
	return pre || len(v.Pre) == 0
}
