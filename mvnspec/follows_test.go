package mvnspec_test

import (
	"slices"
	"testing"

	"dovetail/api"
	"dovetail/checks"
	"dovetail/maven"
	"dovetail/mvnspec"
)

// steps is versions, each row of them alike, rising.
func steps() [][]string {
	return [][]string{
		{"alpha", "ALPHA", "0-alpha"}, {"0", "final", "0.0"}, {"0.9", "0.09"}, {"1-a1", "1-ALPHA-1", "1alpha1"}, {"1-SNAPSHOT", "1.0-snapshot"}, {"1", "1.0", "1-ga", "01", "1.0.0"}, {"1-sp", "1.SP"}, {"1-foo", "1.Foo"}, {"1-1", "1.0-1"}, {"1.1", "1.01"}, {"1.10", "1.10-final"}, {"2-rc", "2-CR"}, {"2", "2.0"}, {"18446744073709551616", "18446744073709551616.0"},
	}
}

// inOrder checks what the tests below take for granted of the steps.
func inOrder(t *testing.T) {
	t.Helper()
	var first []string
	for _, row := range steps() {
		first = append(first, row[0])
	}
	for _, wrong := range slices.Concat(checks.Rising(first, maven.Compare), checks.Alike(steps(), maven.Compare)) {
		t.Fatal(wrong)
	}
}

// stretch is the places of the steps that a range wants: from one on, below another.
type stretch struct{ from, below int }

// stepRanges is each range with its ends among some steps, or without, written by one of each row, and the steps that it wants.
func stepRanges(places []int, writing int) map[api.Mrange]stretch {
	all := steps()
	text := func(place int) string {
		if place < 0 {
			return ""
		}
		return all[place][writing%len(all[place])]
	}
	m := map[api.Mrange]stretch{}
	for _, lo := range append(places, -1) {
		for _, hi := range append(places, -1) {
			for _, brackets := range []string{"[]", "[)", "(]", "()"} {
				wanted := stretch{0, len(all)}
				if lo >= 0 {
					wanted.from = lo
				}
				if lo >= 0 && brackets[0] == '(' {
					wanted.from++
				}
				if hi >= 0 {
					wanted.below = hi
				}
				if hi >= 0 && brackets[1] == ']' {
					wanted.below++
				}
				m[between(brackets, text(lo), text(hi))] = wanted
			}
		}
	}
	return m
}

// P9.4 by its words, and P9.7: versions are wanted by their place in the order alone, however they and the ends are written.
func TestWantsByPlaceAlone(t *testing.T) {
	inOrder(t)
	for writing := range 5 {
		for r, wanted := range stepRanges([]int{0, 1, 4, 5, 6, 9, 12, 13}, writing) {
			m := ranges(r)
			if !mvnspec.Fit(m) {
				continue
			}
			for place, row := range steps() {
				for _, v := range row {
					if mvnspec.Wants(m, v) != (wanted.from <= place && place < wanted.below) {
						t.Errorf("%s wants %q or not", mvnspec.Text(m), v)
					}
				}
			}
		}
	}
}

// requirements is some of each kind.
func requirements() []api.Mavens {
	var l []api.Mavens
	for _, m := range fit() {
		l = append(l, m)
	}
	var single []api.Mrange
	for r := range stepRanges([]int{3, 5, 9}, 1) {
		single = append(single, r)
	}
	for _, row := range checks.Lists(single, 2) {
		if m := ranges(row...); mvnspec.Fit(m) {
			l = append(l, m)
		}
	}
	return append(l, readAs("(,0),[0],(0,1-alpha-1],(1-a1,1.0),(1,1.10),[1.10,2-rc],[2,)"))
}

// P9.6
func TestThereAndBack(t *testing.T) {
	for _, m := range requirements() {
		text := mvnspec.Text(m)
		if again, f := mvnspec.Parse(text); text == "" || f != (api.Fault{}) || !same(again, m) {
			t.Errorf("%+v is written %q, which is read as %+v, %v", m, text, again, f)
		}
	}
}

// P9.7: of two that are alike both are wanted, or neither.
func TestAlike(t *testing.T) {
	inOrder(t)
	for _, m := range requirements() {
		for _, row := range steps() {
			for _, v := range row {
				if mvnspec.Wants(m, v) != mvnspec.Wants(m, row[0]) {
					t.Errorf("%s wants one of %q and %q", mvnspec.Text(m), v, row[0])
				}
			}
		}
	}
}

// P9.7: what is between two that a range alone wants.
func TestBetween(t *testing.T) {
	inOrder(t)
	for _, m := range requirements() {
		if len(m.Ranges) != 1 {
			continue
		}
		all := steps()
		wants := func(row []string) bool { return mvnspec.Wants(m, row[0]) }
		first := slices.IndexFunc(all, wants)
		if first < 0 {
			continue
		}
		behind := slices.IndexFunc(all[first:], func(row []string) bool { return !wants(row) })
		if behind >= 0 && slices.ContainsFunc(all[first+behind:], wants) {
			t.Errorf("%s wants %q and what is behind it, but not all between", mvnspec.Text(m), all[first][0])
		}
	}
}

// P9.8
func TestOneRangeAtMost(t *testing.T) {
	several := 0
	for _, m := range requirements() {
		if len(m.Ranges) > 1 {
			several++
		}
		for _, row := range steps() {
			lies := 0
			for _, r := range m.Ranges {
				if mvnspec.Wants(ranges(r), row[0]) {
					lies++
				}
			}
			if lies > 1 || len(m.Ranges) > 0 && mvnspec.Wants(m, row[0]) != (lies == 1) {
				t.Errorf("%q lies in %d ranges of %s", row[0], lies, mvnspec.Text(m))
			}
		}
	}
	if several < 20 {
		t.Errorf("only %d of several ranges", several)
	}
}
