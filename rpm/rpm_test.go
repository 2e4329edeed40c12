package rpm_test

import (
	"regexp"
	"strings"
	"testing"

	"dovetail/api"
	"dovetail/checks"
	"dovetail/rpm"
)

const (
	far     = "9223372036854775807"
	farther = "18446744073709551616"
)

// fit is versions, by their texts.
func fit() map[string]api.Evr {
	nines := strings.Repeat("9", 62)
	return map[string]api.Evr{
		"1": evr("0", "1"), "0": evr("0", "0"), "00": evr("0", "00"), "a": evr("0", "a"), "~": evr("0", "~"), "^": evr("0", "^"), ".": evr("0", "."), "1.0_a+b~c^D": evr("0", "1.0_a+b~c^D"),
		"1-0": evr("0", "1", "0"), "1-007": evr("0", "1", "007"), "1-1.0_a+b~c^D": evr("0", "1", "1.0_a+b~c^D"), "1-~": evr("0", "1", "~"), "~-~": evr("0", "~", "~"),
		"1:2": evr("1", "2"), "10:2-3": evr("10", "2", "3"), "1:~-^": evr("1", "~", "^"), "100:a": evr("100", "a"), farther + ":" + far: evr(farther, far),
		nines + "12": evr("0", nines+"12"), nines + "-1": evr("0", nines, "1"), "1-" + nines: evr("0", "1", nines), nines + ":1": evr(nines, "1"), "1:" + nines[2:] + "-1": evr("1", nines[2:], "1"),
	}
}

// unfit is versions that can't be.
func unfit() []api.Evr {
	nines := strings.Repeat("9", 62)
	list := []api.Evr{
		{}, {HasRel: true}, {Epoch: "0"}, {Epoch: "1"}, {Ver: "1"}, {Rel: "1"}, {Rel: "1", HasRel: true}, evr("0", "", "1"), evr("1", "", "1"), evr("", "1", "1"),
		{Epoch: "0", Ver: "1", Rel: "1"}, {Epoch: "1", Ver: "1", Rel: "1"}, {Epoch: "0", Ver: "1", Rel: "-"}, {Epoch: "0", Ver: "1", Rel: " "}, {Epoch: "0", Ver: "1-1", Rel: "1"},
		evr("0", nines+"123"), evr("0", nines, "12"), evr("0", "1", nines+"1"), evr(nines, "12"), evr(nines+"1", "1"), evr("1", nines+"1"), evr("1", nines[2:], "12"),
		evr(strings.Repeat("1", 5000), strings.Repeat("1", 5000), strings.Repeat("1", 5000)),
	}
	for _, bad := range []string{"", "01", "00", "x", "1x", "x1", "-1", "+1", "1.0", " 1", "1 ", "1:", ":", "1:2", "0:0", "~", "\xff", "1\x00", "\xd9\xa1"} {
		list = append(list, evr(bad, "1"), evr(bad, "a", "3"))
	}
	for _, bad := range []string{"", "-", "-1", "1-", "1-2", ":", ":1", "1:", "1:2", "a:1", " ", " 1", "1 ", "1\n", "1\x00", "1\xff", "1\xc3\xa9", "1/2", "1*", "(1)", "\xd9\xa1"} {
		list = append(list, evr("0", bad), evr("1", bad), evr("0", bad, "1"), evr("1", bad, "1"), evr("0", "1", bad), evr("1", "a", bad))
	}
	return list
}

// P5.2, P5.3, and P5.8 from the version to its text and back.
func TestFitAndText(t *testing.T) {
	for want, v := range fit() {
		if !rpm.Fit(v) || rpm.Text(v) != want {
			t.Errorf("%+v: Fit %v, Text %q, not %q", v, rpm.Fit(v), rpm.Text(v), want)
		}
		if w, f := rpm.Parse(want); f != (api.Fault{}) || v != w {
			t.Errorf("%+v comes back as %+v, %v", v, w, f)
		}
	}
	for _, v := range unfit() {
		if rpm.Fit(v) || rpm.Text(v) != "" {
			t.Errorf("%+v: Fit %v, Text %q", v, rpm.Fit(v), rpm.Text(v))
		}
	}
}

var (
	epochForm = regexp.MustCompile(`^(0|[1-9][0-9]*)$`)
	partForm  = regexp.MustCompile(`^[0-9A-Za-z._+~^]+$`)
)

// wantedText is P5.2 and P5.3 by their words: a version's text, and whether it is fit.
func wantedText(v api.Evr) (string, bool) {
	text, goodRel := v.Ver, v.Rel == ""
	if v.HasRel {
		text, goodRel = text+"-"+v.Rel, partForm.MatchString(v.Rel)
	}
	if v.Epoch != "0" {
		text = v.Epoch + ":" + text
	}
	if !epochForm.MatchString(v.Epoch) || !partForm.MatchString(v.Ver) || !goodRel || len(text) > 64 {
		return "", false
	}
	return text, true
}

// P5.2, P5.3, P5.8 by their words.
func TestFitEverywhere(t *testing.T) {
	there := 0
	see := func(v api.Evr) {
		text, good := wantedText(v)
		if rpm.Fit(v) != good || rpm.Text(v) != text {
			t.Errorf("%+v: Fit %v, Text %q, not %q", v, rpm.Fit(v), rpm.Text(v), text)
		}
		if !good {
			return
		}
		there++
		if w, f := rpm.Parse(text); f != (api.Fault{}) || v != w {
			t.Errorf("%+v comes back as %+v, %v", v, w, f)
		}
	}
	for _, epoch := range []string{"", "0", "00", "1", "01", "10", "a", "1:1", farther} {
		for _, ver := range append(checks.Texts("1a-:~ ", 3), strings.Repeat("1", 41), strings.Repeat("1", 43), strings.Repeat("1", 62), strings.Repeat("^", 64)) {
			for _, rel := range checks.Texts("0b^-: ", 2) {
				see(api.Evr{Epoch: epoch, Ver: ver, Rel: rel})
				see(api.Evr{Epoch: epoch, Ver: ver, Rel: rel, HasRel: true})
			}
		}
	}
	if there < 1000 {
		t.Errorf("only %d are fit", there)
	}
}
