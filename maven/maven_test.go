package maven_test

import (
	"regexp"
	"slices"
	"strings"
	"testing"

	"dovetail/api"
	"dovetail/checks"
	"dovetail/maven"
)

// fit is tokens, by their texts; there is no limit to their length.
func fit() map[string][]api.MvnTok {
	nines := strings.Repeat("9", 500)
	return map[string][]api.MvnTok{
		"0": toks("0"), "1": toks("1"), "10": toks("10"), "1.2": toks("1", ".2"), "1-2": toks("1", "-2"), "0.1": toks("0", ".1"), "0.0.1": toks("0", ".0", ".1"), "1-0.1": toks("1", "-0", ".1"), "1.0.0.1": toks("1", ".0", ".0", ".1"),
		"x": toks("x"), "_": toks("_"), "+": toks("+"), "a_z+": toks("a_z+"), "a": toks("a"), "1-a-1": toks("1", "-a", "-1"), "b.1": toks("b", ".1"), "alpha-1": toks("alpha", "-1"), "rc": toks("rc"), "1-sp": toks("1", "-sp"), "1.snapshot": toks("1", ".snapshot"), "x.y-z": toks("x", ".y", "-z"), "crc.finals-gaga.releases": toks("crc", ".finals", "-gaga", ".releases"),
		"final.1": toks("", ".1"), "final.0.1": toks("", ".0", ".1"), "1.final.1": toks("1", ".", ".1"), "1-final.1": toks("1", "-", ".1"), "x-final.0.1": toks("x", "-", ".0", ".1"),
		farther: toks(farther), "1." + nines: toks("1", "."+nines), nines + "-x": toks(nines, "-x"), strings.Repeat("x", 500): toks(strings.Repeat("x", 500)),
	}
}

// unfit is tokens that no version has.
func unfit() [][]api.MvnTok {
	list := [][]api.MvnTok{
		nil, {}, toks("-0"), toks("-1"), toks("-x"), toks("-"), toks("-1", ".2"), toks("-x", "-1"),
		toks(""), toks("0", ".0"), toks("0", "-1"), toks("0", ".x"), toks("0", "-x"), toks("0", "."), toks("", ".0"), toks("", "-1"), toks("", ".x"), toks("", "."), toks("", "-0", ".1"),
		toks("1", ".0"), toks("1", "-0"), toks("1", "."), toks("1", "-"), toks("x", ".0"), toks("x", "."), toks("1", ".0", ".0"), toks("1", ".0", "-1"), toks("1", ".0", ".x"), toks("1", "-0", "-x"), toks("1", ".", "-1"), toks("1", ".", ".x"), toks("1", ".", ".", ".1"), toks("1", ".0", ".", ".1"), toks("1", ".0", "-0", ".1"), toks("1", ".0", ".1", ".0"), toks("0", ".1", ".0", "-1"),
		{{Num: true}}, {{Num: true}, tok(".1")}, {tok("1"), {Num: true}}, {tok("1"), {Num: true}, tok(".1")},
	}
	for _, bad := range []string{"01", "00", "000", "1a", "1.2", "-1", "+1", " 1", "1 ", "x", "\xff", "1\x00", "\xd9\xa1"} {
		list = append(list, []api.MvnTok{{Num: true, Text: bad}}, []api.MvnTok{tok("1"), {Num: true, Dash: true, Text: bad}}, []api.MvnTok{{Num: true, Text: bad}, tok(".1")})
	}
	for _, bad := range []string{"cr", "final", "ga", "release", "A", "Foo", "fOO", "FINAL", "a1", "1a", "1", "0", "x1y", "x.y", ".", "-", "-x", "x-", " ", "x ", " x", "x\n", "\x00", "x\xff", "\xc3\xa9", "x~", "x,y", "@", "[", "`", "{"} {
		list = append(list, []api.MvnTok{{Text: bad}}, []api.MvnTok{tok("1"), {Dash: true, Text: bad}}, []api.MvnTok{{Text: bad}, tok(".1")})
	}
	return list
}

// P6.2
func TestFit(t *testing.T) {
	for text, l := range fit() {
		if !maven.Fit(l) {
			t.Errorf("%s is not fit: %+v", text, l)
		}
		if len(text) > api.MaxVersion {
			continue
		}
		if again, f := maven.Tokens(text); f != (api.Fault{}) || !slices.Equal(l, again) || maven.Canon(text) != text {
			t.Errorf("%s is read as %+v, %v", text, again, f)
		}
	}
	for _, l := range unfit() {
		if maven.Fit(l) {
			t.Errorf("%+v is fit", l)
		}
	}
}

var (
	numberForm    = regexp.MustCompile(`^(0|[1-9][0-9]*)$`)
	qualifierForm = regexp.MustCompile(`^[a-z_+]*$`)
	renamedForm   = regexp.MustCompile(`^(cr|final|ga|release)$`)
)

// wantedFit is P6.2 by its words.
func wantedFit(l []api.MvnTok) bool {
	if len(l) == 0 || l[0].Dash {
		return false
	}
	for _, one := range l {
		good := numberForm.MatchString(one.Text)
		if !one.Num {
			good = qualifierForm.MatchString(one.Text) && !renamedForm.MatchString(one.Text)
		}
		if !good {
			return false
		}
	}
	return nullToGo(l) < 0 || len(l) == 1 && l[0].Num
}

// everyRow is all rows of up to three tokens of some texts.
func everyRow(list []string) [][]api.MvnTok {
	var singles []api.MvnTok
	for _, text := range list {
		for _, dash := range []bool{false, true} {
			singles = append(singles, api.MvnTok{Dash: dash, Text: text}, api.MvnTok{Dash: dash, Num: true, Text: text})
		}
	}
	return checks.Lists(singles, 3)
}

// P6.2 by its words, and P6.9 from the tokens to their text and back.
func TestFitEverywhere(t *testing.T) {
	there := 0
	for _, l := range everyRow([]string{"", "0", "1", "20", "01", "x", "rc", "A", "cr", "final", "m"}) {
		if got, want := maven.Fit(l), wantedFit(l); got != want {
			t.Fatalf("Fit(%+v) = %v", l, got)
		}
		if !maven.Fit(l) {
			continue
		}
		there++
		if again, f := maven.Tokens(wantedCanon(l)); f != (api.Fault{}) || !slices.Equal(l, again) {
			t.Fatalf("%+v, written as %q, is read as %+v, %v", l, wantedCanon(l), again, f)
		}
	}
	if there < 200 {
		t.Errorf("only %d are fit", there)
	}
}

// wantedCanon is P6.3 by its words.
func wantedCanon(l []api.MvnTok) string {
	text := ""
	for _, one := range l {
		mark, name := ".", one.Text
		if one.Dash {
			mark = "-"
		}
		if name == "" {
			name = "final"
		}
		text += mark + name
	}
	return strings.TrimPrefix(text, ".")
}

// P6.3
func TestCanon(t *testing.T) {
	for s, want := range map[string]string{
		"1": "1", "1.0": "1", "1-1.foo-bar1baz-.1": "1-1.foo-bar-1-baz-0.1", "1a1": "1-alpha-1", "1.M02": "1.milestone-2", "1-CR": "1-rc", "1.Foo": "1.foo", "01.002": "1.2", "1_2": "1-_-2", "final": "0", "-": "0", "0-x": "x", "0.1": "0.1", ".1": "0.1",
		"1.GA.1": "1.final.1", "1-release.0.1": "1-final.0.1", "final.1": "final.1", "GA.1": "final.1", "1-final-1": "1-1", farther + "-SNAPSHOT": farther + "-snapshot",
		"": "", " ": "", "1 ": "", "1,2": "", "1\xff": "", strings.Repeat("1", 65): "", strings.Repeat("1", 64): strings.Repeat("1", 64),
		// What is written has no limit of its own.
		strings.Repeat("a1", 32): strings.TrimSuffix(strings.Repeat("alpha-1-", 32), "-"),
	} {
		if got := maven.Canon(s); got != want {
			t.Errorf("Canon(%q) = %q, not %q", s, got, want)
		}
	}
	for _, s := range everyText() {
		if l, _ := maven.Tokens(s); maven.Canon(s) != wantedCanon(l) {
			t.Fatalf("Canon(%q) = %q", s, maven.Canon(s))
		}
	}
}

// P6.4
func TestRank(t *testing.T) {
	for i, q := range []string{"alpha", "beta", "milestone", "rc", "snapshot", "", "sp"} {
		if got := maven.Rank(q); got != i+1 {
			t.Errorf("Rank(%q) = %d", q, got)
		}
	}
	for _, q := range []string{"foo", "a", "b", "m", "cr", "final", "ga", "release", "ALPHA", "Sp", "alph", "alphaa", "sp1", "spa", " ", " sp", "sp ", "\x00", "0", "_", "\xff", "-alpha", strings.Repeat("alpha", 500)} {
		if got := maven.Rank(q); got != 8 {
			t.Errorf("Rank(%q) = %d", q, got)
		}
	}
}

// P6.7
func TestSnapshot(t *testing.T) {
	for _, s := range []string{"snapshot", "SNAPSHOT", "1-SNAPSHOT", "1.snapshot", "1SnapShot", "1-rc-snapshot", "1.0-SNAPSHOT", "1-SNAPSHOT-0", "1-snapshot.0.0", "1-snapshot-final", "1-SNAPSHOT.GA.0", "0-snapshot", "-snapshot", "1-snapshot-", "1-snapshot-snapshot", strings.Repeat("1", 56) + "snapshot"} {
		if !maven.Snapshot(s) {
			t.Errorf("%q is no snapshot", s)
		}
	}
	for _, s := range []string{"", "0", "1", "1.0", "1-alpha", "1-snapshot1", "1-snapshot-1", "1-snapshot.1", "1-snapshot.x", "1-snapshots", "1-_snapshot", "1-snapshot+", "1-snap", "1-snapshot.0.1", "1-SNAPSHOT ", " 1-SNAPSHOT", "1 snapshot", "1-snapshot\n", strings.Repeat("1", 57) + "snapshot"} {
		if maven.Snapshot(s) {
			t.Errorf("%q is a snapshot", s)
		}
	}
}

// P6.7, and rule 0.5: the list that is handed in stays, with what lies in its spare room, and the answer is memory of its own.
func TestSort(t *testing.T) {
	for _, wrong := range checks.Sorts(append(noVersions(), ladder()...), maven.Sort) {
		t.Error("Sort: " + wrong)
	}
}

// P6.7: the alike stay in their order.
func TestSortKeepsTheAlike(t *testing.T) {
	early := []string{"1-alpha-1", "1a1", "1-A1", "01.alpha-1", "1.0-a1", "1.0.ALPHA-01"}
	late := []string{"2", "2.0", "2-ga", "02", "2.FINAL", "2-0.release"}
	for _, wrong := range checks.Stays(early, late, maven.Sort) {
		t.Error("Sort: " + wrong)
	}
}

// Rule 0.5: the tokens that are handed in stay, with what lies in their spare room.
func TestTokensStay(t *testing.T) {
	rows := append(unfit(), toks("1", ".0", ".1"), toks("0"), toks("x", "-1"))
	for _, l := range rows {
		room := append(slices.Clone(l), tok("-spare"), tok(".0"))
		kept := slices.Clone(room)
		for _, other := range rows {
			maven.Order(room[:len(l)], other)
			maven.Order(other, room[:len(l)])
		}
		if got := maven.Fit(room[:len(l)]); got != maven.Fit(l) || !slices.Equal(room, kept) {
			t.Errorf("%+v, fit %v, is now %+v", kept, got, room)
		}
	}
}
