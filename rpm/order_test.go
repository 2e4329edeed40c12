package rpm_test

import (
	"math/big"
	"regexp"
	"slices"
	"strings"
	"testing"

	"dovetail/api"
	"dovetail/checks"
	"dovetail/rpm"
)

// segmentLadder is texts of segments, each one less than the next.
func segmentLadder() []string {
	return []string{
		"~~", "~~a", "~", "~^", "~a", "~1", "", "^~", "^", "^^", "^a", "^a1", "^1", "^1.0",
		"A", "Z", "Za", "a~", "a", "a^", "a.a", "a1", "aA", "aa", "b", "z",
		"0~", "0", "0a", "0.0",
		"1~~", "1~", "1~^", "1~rc1", "1~rc2", "1~rc10", "1~1", "1", "1^~", "1^~1", "1^", "1^^~", "1^^", "1^^1", "1^git1~1", "1^git1", "1^git1^", "1^git2", "1^20240101",
		"1a~", "1a", "1a^", "1a.b", "1a1", "1ab", "1b", "1.0~rc1", "1.0", "1.0^git1", "1.0a", "1.0.0", "1.0.1", "1.1", "1.2", "1.9", "1.10", "1.10a", "1." + far, "1." + farther, "1." + farther + "0",
		"2", "9", "10", "11", far, farther, farther + "0",
	}
}

// alikes is rows of texts of segments that are alike.
func alikes() [][]string {
	nines := strings.Repeat("9", 500)
	return [][]string{
		{"", ".", "-", "...", "_+", " ", "\x00", "\xff", "\xc3\xa9", ":()"}, {"0", "00", "000", ".0", "0.", "-0-"}, {"1.05", "1.5", "01.5", "1.005"}, {"1_0", "1.0", "1+0", "1..0", "1.00", "1-0", "1\xff0", "..1.0..", "_1_0"},
		{"1a", "1.a", "01a", "1.a.", "1_a"}, {"a1", "a.1", "a01", ".a1"}, {"1.0a2", "1.0.a.2", "1_0_a_02"}, {"a", "a.", ".a", "+a+"},
		{"~", ".~", "~.", ".~."}, {"^", ".^", "^.", "_^_"}, {"~1", "~.1", ".~01", "~_1_"}, {"1~", "1.~", "1~.", "01.~."}, {"1^", "1.^", "1^."}, {"~~", "~.~", ".~~."}, {"^^", "^.^", "^^."}, {"~^", "~.^", "~^."}, {"^~", "^.~", "^~."}, {"1~rc1", "1.~rc.1", "1~.rc01"}, {"1^git1", "1.^.git.1", "1^git01"}, {"~~1", "~~.1", "~.~1"},
		{far, "0" + far}, {farther + "a" + farther, "00" + farther + "a0" + farther}, {nines, strings.Repeat("0", 300) + nines, nines + "."},
	}
}

func turned(compare func(a, b string) int, a, b string, want int) bool {
	return compare(a, b) == want && compare(b, a) == -want
}

// P5.4
func TestSegments(t *testing.T) {
	for _, wrong := range checks.Rising(segmentLadder(), rpm.Segments) {
		t.Error("Segments: " + wrong)
	}
	for _, wrong := range checks.Alike(alikes(), rpm.Segments) {
		t.Error("Segments: " + wrong)
	}
	nines := strings.Repeat("9", 500)
	for _, c := range []struct {
		a, b string
		want int
	}{
		{"1.0~rc1", "1.0", -1}, {"1.0^git1", "1.0", 1}, {"1.0^git1", "1.0.1", -1}, {"1.05", "1.5", 0}, {"1_0", "1.0", 0}, {"a", "1", -1}, {"1.0a", "1.0", 1},
		{"~", "^", -1}, {"1~", "1^", -1}, {"1.~", "1^", -1}, {"1.^", "1~", 1}, {"~.", "", -1}, {"^.", "", 1}, {".~", ".", -1}, {".^", ".", 1}, {".", "a", -1}, {".", "1", -1}, {"1.", "1.a", -1}, {"1^", "1.a", -1}, {"1^", "1a", -1}, {"1^z", "1.0", -1},
		{"^", "^~", 1}, {"~", "~~", 1}, {"~", "~^", -1}, {"1.1", "11", -1}, {"a.b", "ab", -1}, {"a1", "a", 1}, {"ab", "a1", 1}, {"a.a", "a.1", -1}, {"A", "a", -1}, {"Z", "a", -1}, {"a", "aa", -1}, {"b", "aa", 1}, {"2.0", "10.0", -1}, {"2a", "10", -1}, {"1.a", "1.1", -1},
		{nines, "1" + strings.Repeat("0", 500), -1}, {strings.Repeat("a", 500) + "~", strings.Repeat("a", 500), -1}, {strings.Repeat("1.", 5000), strings.Repeat("1.", 4999) + "2", -1}, {strings.Repeat("~", 5000), strings.Repeat("~", 4999), -1}, {strings.Repeat("^", 5000), strings.Repeat("^", 4999), 1}, {strings.Repeat(".", 5000), "", 0},
	} {
		if !turned(rpm.Segments, c.a, c.b, c.want) {
			t.Errorf("Segments(%q, %q) = %d, turned round %d", c.a, c.b, rpm.Segments(c.a, c.b), rpm.Segments(c.b, c.a))
		}
	}
}

var (
	passedForm  = regexp.MustCompile(`^[^0-9A-Za-z~^]*`)
	digitsForm  = regexp.MustCompile(`^[0-9]*`)
	lettersForm = regexp.MustCompile(`^[A-Za-z]*`)
)

// passed is what is left of a text behind what a form takes of it.
func passed(s string, form *regexp.Regexp) string { return s[len(form.FindString(s)):] }

// wantedMark is the chapter's step for ~ or for ^: whether both are passed over, or the answer, 0 where neither has the mark. ended is the answer where the first text has no bytes left.
func wantedMark(a, b, mark string, ended int) (bool, int) {
	x, y := strings.HasPrefix(a, mark), strings.HasPrefix(b, mark)
	switch {
	case x && y:
		return true, 0
	case x && b == "":
		return false, -ended
	case x:
		return false, -1
	case y && a == "":
		return false, ended
	case y:
		return false, 1
	}
	return false, 0
}

// wantedSegments is the chapter's section 'The order' word by word, step by step.
func wantedSegments(a, b string) int {
steps:
	for a != "" || b != "" {
		a, b = passed(a, passedForm), passed(b, passedForm)
		for _, mark := range []struct {
			text  string
			ended int
		}{{"~", 1}, {"^", -1}} {
			both, answer := wantedMark(a, b, mark.text, mark.ended)
			if both {
				a, b = a[1:], b[1:]
				continue steps
			}
			if answer != 0 {
				return answer
			}
		}
		if a == "" || b == "" {
			break
		}
		form, unlike := lettersForm, -1
		if digitsForm.FindString(a) != "" {
			form, unlike = digitsForm, 1
		}
		x, y := form.FindString(a), form.FindString(b)
		if y == "" {
			return unlike
		}
		decided := strings.Compare(x, y)
		if unlike == 1 {
			m, _ := new(big.Int).SetString(x, 10)
			n, _ := new(big.Int).SetString(y, 10)
			decided = m.Cmp(n)
		}
		if decided != 0 {
			return decided
		}
		a, b = a[len(x):], b[len(y):]
	}
	switch {
	case a != "":
		return 1
	case b != "":
		return -1
	}
	return 0
}

// P5.4 by its words.
func TestSegmentsEverywhere(t *testing.T) {
	parts := slices.Concat(checks.Texts("019aZ~^.", 3), checks.Texts("1a~^.", 4), segmentLadder(), slices.Concat(alikes()...), []string{"1.0~rc1", "1.00~rc01", "2.0+b1^", "a10b2~c", farther + "x", "0" + farther + "x1"})
	for _, a := range parts {
		for _, b := range parts {
			if got, want := rpm.Segments(a, b), wantedSegments(a, b); got != want {
				t.Fatalf("Segments(%q, %q) = %d, not %d", a, b, got, want)
			}
		}
	}
}

// P5.4: each byte against the end and against each other one.
func TestSegmentsBytes(t *testing.T) {
	for c := range 256 {
		one := string([]byte{byte(c)})
		for _, ahead := range []string{"", "a", "1", "1."} {
			if got, want := rpm.Segments(ahead+one, ahead), wantedSegments(ahead+one, ahead); got != want {
				t.Errorf("Segments(%q, %q) = %d", ahead+one, ahead, got)
			}
			for d := range 256 {
				a, b := ahead+one, ahead+string([]byte{byte(d)})
				if got, want := rpm.Segments(a, b), wantedSegments(a, b); got != want {
					t.Errorf("Segments(%q, %q) = %d", a, b, got)
				}
			}
		}
	}
}

// ladder is versions, each one less than the next.
func ladder() []string {
	return []string{
		"~", "~-1", "^", "a", "a-1", "0~", "0~-1", "0", "0-~~", "0-~", "0-.", "0-^", "0-a", "0-0", "0-1", "0a",
		"1.0~rc1", "1.0~rc1-1", "1.0~rc2", "1.0~rc10-3", "1.0", "1.0-~1", "1.0-^1", "1.0-a", "1.0-0", "1.0-1~a", "1.0-1", "1.0-1^a", "1.0-1a", "1.0-1.fc39", "1.0-1.1", "1.0-2", "1.0-10", "1.0-" + far, "1.0-" + farther,
		"1.0^", "1.0^git1", "1.0^git1-1", "1.0a", "1.0.1", "1.2", "1.10-1", "1.10-2", "1." + far, "1." + farther, "2", "9", "10", far, farther, farther + "-1",
		"1:~", "1:0", "1:0-1", "1:2.0", "2:0~", "2:0", "10:0", far + ":0", farther + ":~", farther + ":0", farther + ":0-1",
	}
}

func orderOfTexts(t *testing.T) func(a, b string) int {
	read := func(s string) api.Evr {
		v, f := rpm.Parse(s)
		if f != (api.Fault{}) {
			t.Fatalf("Parse(%q): %v", s, f)
		}
		return v
	}
	return func(a, b string) int { return rpm.Order(read(a), read(b)) }
}

// P5.5
func TestOrder(t *testing.T) {
	order := orderOfTexts(t)
	for _, wrong := range checks.Rising(ladder(), order) {
		t.Error("Order: " + wrong)
	}
	same := [][]string{
		{"1", "0:1", "000:1", "01", "1.", ".1"}, {"1:2", "01:2", "0001:02"}, {"1.05-1", "1.5-1", "1_5-01", "00:1.5-1."}, {"1-.", "1-_", "1-+.", "01-..."}, {"1.0a-1b", "1.0.a-1.b"}, {farther + ":1", "0" + farther + ":1"}, {"~", ".~", "0:~."},
	}
	for _, wrong := range slices.Concat(checks.Alike(same, order), checks.Alike(same, rpm.Compare)) {
		t.Error("Order, Compare: " + wrong)
	}
}

// P5.5: of what is not fit nothing is less.
func TestOrderOfUnfit(t *testing.T) {
	for _, v := range unfit() {
		for text, w := range fit() {
			if rpm.Order(v, w) != 0 || rpm.Order(w, v) != 0 || rpm.Order(v, v) != 0 {
				t.Errorf("Order of %+v and %s", v, text)
			}
		}
	}
	low, high := api.Evr{Epoch: "0", Ver: "1", Rel: "1"}, api.Evr{Epoch: "0", Ver: "2", Rel: "1"}
	if rpm.Order(low, high) != 0 || rpm.Order(high, low) != 0 {
		t.Error("Order of two that are not fit")
	}
}

// noVersions is texts with a fault.
func noVersions() []string {
	return []string{"", " ", "-", "-1", ":1", "1 ", "1-", "1-2-3", "1-2:3", "1:", "1:2:3", "9:9-", "99:", strings.Repeat("9", 65), "a:1", "1\xff", "\xff"}
}

// P5.6
func TestCompare(t *testing.T) {
	for _, none := range noVersions() {
		for _, wrong := range checks.Rising(append([]string{none}, ladder()...), rpm.Compare) {
			t.Error("Compare: " + wrong)
		}
	}
	for _, wrong := range checks.Alike([][]string{noVersions()}, rpm.Compare) {
		t.Error("Compare: " + wrong)
	}
}

// P5.7
func TestOrders(t *testing.T) {
	segments := slices.Concat(segmentLadder(), slices.Concat(alikes()...), checks.Texts("01a~^.", 3))
	for _, wrong := range checks.Order(segments, rpm.Segments) {
		t.Error("Segments: " + wrong)
	}
	versions := slices.Concat(noVersions(), ladder(), []string{"01.0", "0:1.0", "1_0", "1.00-1", "1:02", "01:2", "1.0~rc01", "1-.", "1-_"})
	for _, s := range checks.Texts("1~-:.", 3) {
		versions = append(versions, s, "1"+s)
	}
	for _, wrong := range checks.Order(versions, rpm.Compare) {
		t.Error("Compare: " + wrong)
	}
	for _, a := range append(segments, versions...) {
		if rpm.Segments(a, a) != 0 || rpm.Compare(a, a) != 0 {
			t.Errorf("%q is not like itself", a)
		}
	}
}

// holdsBehind tells whether compare is as P5.9 says, of a text with a mark and a tail behind it.
func holdsBehind(compare func(a, b string) int, s, tail string) bool {
	with := turned(compare, s+"~"+tail, s, -1) && turned(compare, s+"^"+tail, s, 1)
	for _, digits := range []string{"0", "00", "1", "9", "007"} {
		with = with && turned(compare, s+"^"+tail, s+"."+digits, -1)
	}
	return with
}

// P5.9
func TestMarksBehind(t *testing.T) {
	tails := append(checks.Texts("1a~^.", 2), farther, "\xff\x00", "-1", ":")
	for _, s := range slices.Concat(segmentLadder(), slices.Concat(alikes()...), checks.Texts("01a~^.", 3)) {
		for _, tail := range tails {
			if !holdsBehind(rpm.Segments, s, tail) {
				t.Errorf("Segments of %q with a mark and %q behind", s, tail)
			}
		}
	}
	for _, s := range ladder() {
		for _, tail := range checks.Texts("1a~^.", 2) {
			if !holdsBehind(rpm.Compare, s, tail) {
				t.Errorf("Compare of %q with a mark and %q behind", s, tail)
			}
		}
		if !strings.Contains(s, "-") && !holdsBehind(rpm.Compare, s, "a-1") {
			t.Errorf("Compare of %q with a mark and a release behind", s)
		}
	}
}
