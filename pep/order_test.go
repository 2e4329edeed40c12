package pep_test

import (
	"slices"
	"strings"
	"testing"

	"dovetail/api"
	"dovetail/checks"
	"dovetail/pep"
)

// ladder is versions, each one ahead of the next.
func ladder() []string {
	return []string{
		"0.dev0", "0", "0.0.0.1", "0.1", "0.2", "0.10",
		"1.0.dev0", "1.0.dev1", "1.0.dev2", "1.0.dev10", "1.0.dev10+a", "1.0.dev" + far, "1.0.dev" + farther,
		"1.0a0.dev1", "1.0a0", "1.0a0.post0.dev0", "1.0a0.post0", "1.0a1.dev1", "1.0a1", "1.0a1+x", "1.0a1.post1", "1.0a2", "1.0a10", "1.0a" + farther,
		"1.0b0.dev0", "1.0b0", "1.0b9", "1.0b10", "1.0rc0", "1.0rc1.dev1", "1.0rc1", "1.0rc1.post2", "1.0rc" + far,
		"1.0", "1.0+a", "1.0+a.a", "1.0+a.0", "1.0+a.0.a", "1.0+a.1", "1.0+a0", "1.0+aa", "1.0+b", "1.0+z9", "1.0+0", "1.0+0.a", "1.0+0.0", "1.0+1", "1.0+2", "1.0+10", "1.0+" + far, "1.0+" + farther,
		"1.0.post0.dev0", "1.0.post0.dev1", "1.0.post0", "1.0.post0+a", "1.0.post1.dev0", "1.0.post1", "1.0.post2", "1.0.post10", "1.0.post" + farther,
		"1.0.1.dev0", "1.0.1", "1.0.2", "1.0.10", "1.1a1", "1.1", "1.2", "1.10", "2", "10", far, farther,
		"1!0.dev0", "1!0", "1!1.0", "2!0", "10!0", far + "!0", farther + "!0a0", farther + "!0",
	}
}

func orderOfTexts(t *testing.T) func(a, b string) int {
	return func(a, b string) int { return pep.Order(mustParse(t, a), mustParse(t, b)) }
}

// P3.5
func TestOrder(t *testing.T) {
	for _, wrong := range checks.Rising(ladder(), orderOfTexts(t)) {
		t.Error("Order: " + wrong)
	}
}

// stagesOf is all that may stand behind one release, in the order that the chapter tells.
func stagesOf() []string {
	locals := []string{"", "+a", "+a.0", "+b", "+0", "+0.a", "+2", "+10"}
	devs := []string{".dev0", ".dev2", ".dev10", ""}
	posts := []string{"", ".post0", ".post2", ".post10"}
	var all []string
	for _, dev := range devs[:3] {
		for _, local := range locals {
			all = append(all, dev+local)
		}
	}
	for _, pre := range []string{"a0", "a2", "a10", "b0", "b1", "rc0", "rc1", ""} {
		for _, post := range posts {
			for _, dev := range devs {
				if pre == "" && post == "" && dev != "" {
					continue
				}
				for _, local := range locals {
					all = append(all, pre+post+dev+local)
				}
			}
		}
	}
	return all
}

// P3.5, P3.11: stage by stage.
func TestOrderOfStages(t *testing.T) {
	var versions []api.Pep
	all := stagesOf()
	for _, s := range all {
		versions = append(versions, mustParse(t, "3.0"+s))
	}
	for i, v := range versions {
		for j, w := range versions {
			want := 0
			if i < j {
				want = -1
			} else if i > j {
				want = 1
			}
			if got := pep.Order(v, w); got != want {
				t.Fatalf("Order of %q and %q is %d", all[i], all[j], got)
			}
		}
	}
}

// P3.5: parts "0" at a release's end play no part.
func TestOrderOfReleases(t *testing.T) {
	same := [][]string{
		{"1", "1.0", "1.0.0", "1.00.000", "01"}, {"0", "0.0", "0.0.0"}, {"1.0.1", "1.0.1.0"}, {"1a1", "1.0a1", "1.0.0.a1"}, {"1!0", "1!0.0"}, {"1+a", "1.0+a"}, {"2.dev1", "2.0.dev1"}, {"2-1", "2.0.post1"},
		{far, far + ".0"}, {"10", "10.0"}, {"0!3.0.0.0", "3"},
	}
	for _, wrong := range slices.Concat(checks.Alike(same, orderOfTexts(t)), checks.Alike(same, pep.Compare)) {
		t.Error("Order, Compare: " + wrong)
	}
	many := api.Pep{Epoch: "0", Release: append([]string{"1"}, slices.Repeat([]string{"0"}, 300)...)}
	more := api.Pep{Epoch: "0", Release: append(slices.Clone(many.Release), "1")}
	one := release("1")
	if pep.Order(many, one) != 0 || pep.Order(one, many) != 0 || pep.Order(more, one) != 1 || pep.Order(one, more) != -1 || pep.Order(many, more) != -1 {
		t.Error("releases of many parts")
	}
}

// P3.5: of what is not fit nothing is ahead, and Order has no limit of length.
func TestOrderOfUnfit(t *testing.T) {
	for _, v := range unfit() {
		for _, s := range []string{"0.dev0", "1", "1!1.0a1.post2.dev3+x.1", "99!0"} {
			w := mustParse(t, s)
			if pep.Order(v, w) != 0 || pep.Order(w, v) != 0 || pep.Order(v, v) != 0 {
				t.Errorf("Order of %+v and %+v", v, w)
			}
		}
	}
	if pep.Order(release("01"), release("02")) != 0 || pep.Order(release("02"), release("01")) != 0 {
		t.Error("Order of two that are not fit")
	}
	nines, tens := strings.Repeat("9", 200), "1"+strings.Repeat("0", 200)
	if pep.Order(release(nines), release(tens)) != -1 || pep.Order(release(tens), release(nines)) != 1 || pep.Order(release(tens), release(tens)) != 0 {
		t.Error("Order of long ones")
	}
}

// noVersions is texts with a fault.
func noVersions() []string {
	return []string{"", " ", "x", "v", "1.", "1!", "1.0+", "1.0.x", "1a.", "99!", "1.0+a.", strings.Repeat("9", 65), "1" + strings.Repeat(".0", 32), "\xff"}
}

// P3.6
func TestCompare(t *testing.T) {
	for _, none := range noVersions() {
		for _, wrong := range checks.Rising(append([]string{none}, ladder()...), pep.Compare) {
			t.Error("Compare: " + wrong)
		}
	}
	for _, wrong := range checks.Alike([][]string{noVersions()}, pep.Compare) {
		t.Error("Compare: " + wrong)
	}
}

// P3.9
func TestCompareIsAnOrder(t *testing.T) {
	l := slices.Concat(noVersions(), ladder(), []string{"V1.0", "1", "1.0.0-alpha", "1.0a", "1.0-0", "1.0+A", "1+00.a", "1.0.preview", "1c0"})
	for _, wrong := range checks.Order(l, pep.Compare) {
		t.Error("Compare: " + wrong)
	}
	for _, a := range l {
		if pep.Compare(a, a) != 0 {
			t.Errorf("%q is not like itself", a)
		}
	}
}

// P3.9: what has one normal form is alike with all.
func TestCompareByNormal(t *testing.T) {
	form := map[string]string{}
	for _, s := range everyText() {
		n := pep.Normal(s)
		other, seen := form[n]
		if !seen {
			form[n] = s
			continue
		}
		if pep.Compare(s, other) != 0 || pep.Compare(other, s) != 0 {
			t.Errorf("%q and %q are both %q", s, other, n)
		}
	}
	l := ladder()
	for i, a := range l {
		for _, b := range l[:i] {
			if pep.Normal(a) == pep.Normal(b) {
				t.Errorf("%q and %q are of one form", a, b)
			}
		}
	}
}

// P3.11: what is ahead of what.
func TestWhatIsAhead(t *testing.T) {
	for _, base := range []string{"0", "1.0", "1.0.0", "2!3.4", farther} {
		row := []string{"dev9", "a1", "b1", "rc1", "", "post1"}
		for i := range row {
			row[i] = base + row[i]
		}
		for _, wrong := range checks.Rising(row, pep.Compare) {
			t.Error("Compare: " + wrong)
		}
	}
}

// P3.11: capital letters, a v ahead, noughts ahead and marks play no part.
func TestWhatPlaysNoPart(t *testing.T) {
	for _, same := range [][]string{
		{"1.0a1", "1.0A1", "v1.0a1", "V1.0a1", "01.00a01", "1.0-a1", "1.0_a1", "1.0.a1", "1.0a-1", "1.0a_1", "1.0a.1", "1.0-ALPHA-1", "v0!1.0.alpha_001"},
		{"1.0b2", "1.0beta2", "1.0.Beta.2", "1.0_b_02"},
		{"1.0rc0", "1.0rc", "1.0c", "1.0pre", "1.0preview", "1.0-RC", "1.0_Preview_0", "V1.0.c.00"},
		{"1.0.post3", "1.0-3", "1.0post3", "1.0_post3", "1.0-post-3", "1.0.rev.3", "1.0r3", "1.0R_03", "v1.0-03"},
		{"1.0.dev4", "1.0dev4", "1.0-dev_4", "1.0_DEV.04"},
		{"1.0+ab.1", "1.0+AB.1", "1.0+ab-1", "1.0+aB_01", "v1.0+Ab.001"},
		{"2!1", "02!1", "v2!01", "V002!1"},
		{"1a0.post0.dev0", "1a-0-0-dev-0", "1arevdev", "V1_ALPHA.R-DEV"},
	} {
		for _, s := range same {
			if pep.Normal(s) != pep.Normal(same[0]) || pep.Compare(s, same[0]) != 0 {
				t.Errorf("%q is not %q", s, same[0])
			}
		}
	}
}
