package maven_test

import (
	"cmp"
	"math/big"
	"slices"
	"strings"
	"testing"

	"dovetail/api"
	"dovetail/checks"
	"dovetail/maven"
)

// ladder is versions, each one ahead of the next.
func ladder() []string {
	return []string{
		"alpha", "alpha-1", "alpha.1", "beta", "milestone", "rc", "snapshot", "final.1", "sp", "+", "_", "a", "foo", "z",
		"0", "0.0.1", "0.1", "0.1-x", "0.1.1",
		"1-alpha-alpha", "1-alpha", "1-alpha-sp", "1-alpha-x", "1-alpha-1", "1-alpha-2", "1-alpha-10", "1-alpha.0.1", "1-alpha.1", "1-beta-x", "1-beta-1", "1-milestone", "1-m3", "1-rc", "1-rc-1", "1.rc.1", "1-SNAPSHOT", "1-snapshot-1",
		"1", "1-final.1", "1.final.2", "1-sp", "1-sp-1", "1-+", "1-_", "1-a", "1-a-1", "1-aa", "1-abc", "1-foo", "1-foo-1", "1.foo.1", "1-foobar", "1-sps", "1-z",
		"1-0.1", "1-1-rc", "1-1", "1-1-x", "1-1-1", "1-1.1", "1-2", "1-10", "1-" + far, "1-" + farther, "1-" + farther + "0",
		"1.0.1-rc", "1.0.1", "1.1-SNAPSHOT", "1.1", "1.1-sp", "1.1-x", "1.1-1", "1.1.1", "1.2", "1.9", "1.10", "1." + far, "1." + farther, "1." + farther + "0",
		"2-alpha", "2", "2.0.1", "2.0.1-xyz", "2.0.1-123", "2.1", "9", "10", far, farther, farther + "0",
	}
}

// alikes is rows of versions that are alike.
func alikes() [][]string {
	return [][]string{
		{"1", "1.0", "1.0.0", "1-0", "1-ga", "1.GA", "1-final", "1.Final", "1release", "01", "1.", "1-", "1--.", "0-1", "-1", "1.0-0.final-0", "final-1", "ga1"},
		{"0", "00", ".", "-", "final", "GA", "release.0", "0.0-0", "-.-"},
		{"1-alpha-1", "1-a1", "1a1", "1.alpha-1", "1alpha1", "1A1", "1.0-ALPHA-01", "01.0.Alpha-1.0"},
		{"1-beta-2", "1b2", "1.B2"}, {"1-milestone-3", "1m3", "1M03"},
		{"1-rc", "1-CR", "1.cr", "1Rc", "1-rc-0", "1.0.cr.final"}, {"1-rc-1", "1cr1", "1.CR-1"}, {"1-snapshot", "1.SNAPSHOT", "1Snapshot"}, {"1-sp", "1.SP", "1sp"},
		{"1-foo", "1.foo", "1FOO", "1.0.foo", "1-0-Foo"}, {"1.foo.1", "1-foo.1", "1foo.1"}, {"1-foo-1", "1.foo1", "1foo1"}, {"1.1", "1.01", "01.1.0"}, {"1-1", "1.0-1", "1--1", "1-01"}, {"1.0.1", "1..1", "1.00.1"}, {"1-0.1", "1.0-0.1", "1-.1"}, {"1.final.1", "1-ga.1", "1release.1", "1.0.final.1"}, {"x", "X", "0-x", "0.x", "-x"}, {"1-_-2", "1_2", "1._2"}, {"0.1", ".1", "-.1"},
		{farther, "00" + farther + ".0"}, {"1-" + far, "1-0" + far},
	}
}

func orderOfTexts(t *testing.T) func(a, b string) int {
	read := func(s string) []api.MvnTok {
		l, f := maven.Tokens(s)
		if f != (api.Fault{}) {
			t.Fatalf("Tokens(%q): %v", s, f)
		}
		return l
	}
	return func(a, b string) int { return maven.Order(read(a), read(b)) }
}

// P6.5
func TestOrder(t *testing.T) {
	order := orderOfTexts(t)
	for _, wrong := range checks.Rising(ladder(), order) {
		t.Error("Order: " + wrong)
	}
	for _, wrong := range checks.Alike(alikes(), order) {
		t.Error("Order: " + wrong)
	}
}

// step is where a token stands among the chapter's kinds: a qualifier, a number with a Dash, one without.
func step(one api.MvnTok, first bool) int {
	switch {
	case !one.Num:
		return 0
	case one.Dash && !first:
		return 1
	}
	return 2
}

// wantedOrder is P6.5 by its words.
func wantedOrder(a, b []api.MvnTok) int {
	if !wantedFit(a) || !wantedFit(b) {
		return 0
	}
	ranks := []string{"alpha", "beta", "milestone", "rc", "snapshot", "", "sp"}
	for i := range max(len(a), len(b)) {
		pair := [2]api.MvnTok{}
		for side, l := range [][]api.MvnTok{a, b} {
			if i < len(l) {
				pair[side] = l[i]
			}
		}
		x, y := pair[0], pair[1]
		if p, q := step(x, i == 0), step(y, i == 0); p != q {
			return cmp.Compare(p, q)
		}
		decided := 0
		if x.Num {
			m, _ := new(big.Int).SetString(x.Text, 10)
			n, _ := new(big.Int).SetString(y.Text, 10)
			decided = m.Cmp(n)
		} else if p, q := slices.Index(ranks, x.Text), slices.Index(ranks, y.Text); p >= 0 && q >= 0 {
			decided = cmp.Compare(p, q)
		} else if p < 0 && q < 0 {
			decided = strings.Compare(x.Text, y.Text)
		} else {
			decided = cmp.Compare(q, p)
		}
		if decided != 0 {
			return decided
		}
	}
	return 0
}

// P6.5 by its words: each pair of rows of tokens, those among them that are not fit.
func TestOrderEverywhere(t *testing.T) {
	var rows [][]api.MvnTok
	for i, l := range everyRow([]string{"", "0", "9", "10", "x", "alpha", "sp"}) {
		if wantedFit(l) && (len(l) < 3 || i%3 == 0) || i%97 == 0 {
			rows = append(rows, l)
		}
	}
	for _, l := range fit() {
		rows = append(rows, l)
	}
	if len(rows) < 500 {
		t.Errorf("only %d rows", len(rows))
	}
	for _, a := range rows {
		for _, b := range rows {
			if got, want := maven.Order(a, b), wantedOrder(a, b); got != want {
				t.Fatalf("Order(%+v, %+v) = %d, not %d", a, b, got, want)
			}
		}
	}
}

// P6.5: each known qualifier, and some others, with a Dash and without, against each and against numbers.
func TestOrderOfQualifiers(t *testing.T) {
	rising := []string{"alpha", "beta", "milestone", "rc", "snapshot", "", "sp", "+", "_", "a", "az", "b", "spa"}
	for i, p := range rising {
		for j, q := range rising {
			for _, marks := range []string{"..", ".-", "-.", "--"} {
				a, b := toks("1", marks[:1]+p, ".1"), toks("1", marks[1:]+q, ".1")
				if got := maven.Order(a, b); got != cmp.Compare(i, j) {
					t.Errorf("Order(%+v, %+v) = %d", a, b, got)
				}
			}
		}
		for _, mark := range []string{".", "-"} {
			for _, n := range []string{"-0", ".0", "-1", ".1", "." + farther} {
				a, b := toks("1", mark+p, ".1"), toks("1", n, ".1")
				if maven.Order(a, b) != -1 || maven.Order(b, a) != 1 {
					t.Errorf("%+v is not ahead of %+v", a, b)
				}
			}
		}
	}
	if a, b := toks("1", "-"+farther), toks("1", ".1"); maven.Order(a, b) != -1 || maven.Order(b, a) != 1 {
		t.Errorf("%+v is not ahead of %+v", a, b)
	}
}

// P6.5: of what is not fit nothing is ahead.
func TestOrderOfUnfit(t *testing.T) {
	for _, l := range unfit() {
		for _, s := range []string{"alpha", "0", "1", "1.0.1-x", "99"} {
			other, _ := maven.Tokens(s)
			if maven.Order(l, other) != 0 || maven.Order(other, l) != 0 || maven.Order(l, l) != 0 {
				t.Errorf("Order of %+v and %+v", l, other)
			}
		}
	}
	if low, high := toks("1", ".0"), toks("2", ".0"); maven.Order(low, high) != 0 || maven.Order(high, low) != 0 {
		t.Error("Order of two that are not fit")
	}
}

// noVersions is texts that are none, rising byte by byte.
func noVersions() []string {
	return []string{"", "\x00", " ", " 1", "(1", "1 ", "1,2", "10:", strings.Repeat("1", 65), "1:", "9:", "[1,2]", "alpha ", "alpha~", "{", "\xff"}
}

// P6.6
func TestCompare(t *testing.T) {
	for _, wrong := range checks.Rising(append(noVersions(), ladder()...), maven.Compare) {
		t.Error("Compare: " + wrong)
	}
	for _, wrong := range checks.Alike(alikes(), maven.Compare) {
		t.Error("Compare: " + wrong)
	}
	// As versions they would be alike, or the other way round.
	if maven.Compare("1.0 ", "1 ") != 1 || maven.Compare("1 ", "1.0 ") != -1 || maven.Compare("10~", "9~") != -1 || maven.Compare("x ", "X ") != 1 || maven.Compare(" ", " ") != 0 {
		t.Error("what is none is not compared byte by byte")
	}
}

// P6.8
func TestCompareIsAnOrder(t *testing.T) {
	versions := slices.Concat(noVersions(), ladder(), slices.Concat(alikes()...), checks.Texts("0a.-", 3), checks.Rows([]string{"-1", ".0", ".final", "x"}, 3))
	for _, wrong := range checks.Order(versions, maven.Compare) {
		t.Error("Compare: " + wrong)
	}
}

// P6.10: nulls laid behind, in small and in great letters, and letters of either kind.
func TestNullsBehindAndLetters(t *testing.T) {
	versions := slices.Concat(ladder(), slices.Concat(alikes()...), checks.Texts("01aX.-", 4)[1:])
	tails := checks.Rows([]string{".0", "-0", ".00", "-final", ".Final", "-GA", ".ga", "-release", ".RELEASE"}, 2)
	for _, s := range versions {
		l, _ := maven.Tokens(s)
		for _, tail := range tails {
			if again, f := maven.Tokens(s + tail); f != (api.Fault{}) || !slices.Equal(l, again) || maven.Compare(s, s+tail) != 0 {
				t.Fatalf("%q is not like %q", s+tail, s)
			}
		}
		for _, other := range []string{strings.ToUpper(s), strings.ToLower(s)} {
			if again, f := maven.Tokens(other); f != (api.Fault{}) || !slices.Equal(l, again) || maven.Compare(s, other) != 0 {
				t.Fatalf("%q is not like %q", other, s)
			}
		}
	}
}
