package deb_test

import (
	"regexp"
	"slices"
	"strings"
	"testing"

	"dovetail/api"
	"dovetail/checks"
	"dovetail/deb"
)

const (
	far     = "9223372036854775807"
	farther = "18446744073709551616"
)

func mustParse(t *testing.T, s string) api.DebVer {
	t.Helper()
	v, f := deb.Parse(s)
	if f != (api.Fault{}) {
		t.Fatalf("Parse(%q): %v", s, f)
	}
	return v
}

// fit is versions, by their texts.
func fit() map[string]api.DebVer {
	nines := strings.Repeat("9", 62)
	return map[string]api.DebVer{
		"1":                     {Epoch: "0", Upstream: "1"},
		"0":                     {Epoch: "0", Upstream: "0"},
		"00":                    {Epoch: "0", Upstream: "00"},
		"1.0a+b~c":              {Epoch: "0", Upstream: "1.0a+b~c"},
		"1-0":                   {Epoch: "0", Upstream: "1", Revision: "0"},
		"1-a.b+c~d":             {Epoch: "0", Upstream: "1", Revision: "a.b+c~d"},
		"1-~":                   {Epoch: "0", Upstream: "1", Revision: "~"},
		"1:2":                   {Epoch: "1", Upstream: "2"},
		"10:2-3":                {Epoch: "10", Upstream: "2", Revision: "3"},
		"1-2-3":                 {Epoch: "0", Upstream: "1-2", Revision: "3"},
		"1--3":                  {Epoch: "0", Upstream: "1-", Revision: "3"},
		"1:2:3":                 {Epoch: "1", Upstream: "2:3"},
		"0:2:3":                 {Epoch: "0", Upstream: "2:3"},
		"0:2:":                  {Epoch: "0", Upstream: "2:"},
		"0:2:3-4":               {Epoch: "0", Upstream: "2:3", Revision: "4"},
		"0:2-:-4":               {Epoch: "0", Upstream: "2-:", Revision: "4"},
		"5:2-3:4-5":             {Epoch: "5", Upstream: "2-3:4", Revision: "5"},
		farther + ":" + far:     {Epoch: farther, Upstream: far},
		nines + "12":            {Epoch: "0", Upstream: nines + "12"},
		nines + "-1":            {Epoch: "0", Upstream: nines, Revision: "1"},
		"1-" + nines:            {Epoch: "0", Upstream: "1", Revision: nines},
		nines + ":1":            {Epoch: nines, Upstream: "1"},
		"0:1" + nines[2:] + ":": {Epoch: "0", Upstream: "1" + nines[2:] + ":"},
	}
}

// unfit is versions that are none.
func unfit() []api.DebVer {
	nines := strings.Repeat("9", 62)
	list := []api.DebVer{
		{}, {Epoch: "0"}, {Epoch: "1"}, {Upstream: "1"}, {Revision: "1"}, {Epoch: "0", Revision: "1"}, {Upstream: "1", Revision: "1"},
		{Epoch: "0", Upstream: "1-2"}, {Epoch: "1", Upstream: "1-2"}, {Epoch: "0", Upstream: "1-"}, {Epoch: "0", Upstream: "1:2-3"}, {Epoch: "1", Upstream: "2-3:4"},
		{Epoch: "0", Upstream: nines + "123"}, {Epoch: "0", Upstream: nines, Revision: "12"}, {Epoch: "0", Upstream: "1", Revision: nines + "1"},
		{Epoch: nines, Upstream: "12"}, {Epoch: nines + "1", Upstream: "1"}, {Epoch: "1", Upstream: nines + "1"}, {Epoch: "0", Upstream: "1" + nines + ":"},
		{Epoch: strings.Repeat("1", 5000), Upstream: strings.Repeat("1", 5000), Revision: strings.Repeat("1", 5000)},
	}
	for _, bad := range []string{"", "01", "00", "x", "1x", "x1", "-1", "+1", "1.0", " 1", "1 ", "1:", ":", "1:2", "0:0", "\xff", "1\x00", "\xd9\xa1"} {
		list = append(list, api.DebVer{Epoch: bad, Upstream: "1"}, api.DebVer{Epoch: bad, Upstream: "1:2", Revision: "3"})
	}
	for _, bad := range []string{"", "a", ".1", "~1", "+1", "-1", "-", ":1", ":", " 1", "1_2", "1 ", "1\x00", "1\xff", "1\xc3\xa9", "a1", "1/2", "1^", "\xd9\xa1"} {
		list = append(list, api.DebVer{Epoch: "0", Upstream: bad}, api.DebVer{Epoch: "1", Upstream: bad}, api.DebVer{Epoch: "1", Upstream: bad, Revision: "1"})
	}
	for _, bad := range []string{"-", "1-", "-1", "1-2", ":", "1:2", "1:", "_", "1_", " ", "1 ", "\x00", "\xff", "\xc3\xa9", "1/", "^"} {
		list = append(list, api.DebVer{Epoch: "0", Upstream: "1", Revision: bad}, api.DebVer{Epoch: "1", Upstream: "1:2", Revision: bad}, api.DebVer{Epoch: "0", Upstream: "1-2", Revision: bad})
	}
	return list
}

// P4.2, and P4.8 from the version to its text and back.
func TestFitAndFormat(t *testing.T) {
	for want, v := range fit() {
		if !deb.Fit(v) || deb.Format(v) != want {
			t.Errorf("%q: Fit %v, Format %q, not %q", v, deb.Fit(v), deb.Format(v), want)
		}
		if w, f := deb.Parse(want); f != (api.Fault{}) || v != w {
			t.Errorf("%q comes back as %q, %v", v, w, f)
		}
	}
	for _, v := range unfit() {
		if deb.Fit(v) || deb.Format(v) != "" {
			t.Errorf("%q: Fit %v, Format %q", v, deb.Fit(v), deb.Format(v))
		}
	}
}

var (
	epochForm    = regexp.MustCompile(`^(0|[1-9][0-9]*)$`)
	upstreamForm = regexp.MustCompile(`^[0-9][0-9A-Za-z.+~:-]*$`)
	revisionForm = regexp.MustCompile(`^[0-9A-Za-z.+~]*$`)
)

// wanted is P4.2 by its words: a version's text, and whether it is fit.
func wanted(v api.DebVer) (string, bool) {
	text := v.Upstream
	if v.Epoch != "0" || strings.Contains(v.Upstream, ":") {
		text = v.Epoch + ":" + text
	}
	if v.Revision != "" {
		text += "-" + v.Revision
	}
	good := epochForm.MatchString(v.Epoch) && upstreamForm.MatchString(v.Upstream) && revisionForm.MatchString(v.Revision) &&
		(v.Revision != "" || !strings.Contains(v.Upstream, "-")) &&
		len(text) <= 64
	if !good {
		return "", false
	}
	return text, true
}

// P4.2, P4.8 by their words.
func TestFitEverywhere(t *testing.T) {
	there := 0
	for _, epoch := range []string{"", "0", "00", "1", "01", "10", "a", "1:1", farther} {
		for _, upstream := range append(checks.Texts("1a-:~_", 3), strings.Repeat("1", 42), strings.Repeat("1", 62), "1:"+strings.Repeat("1", 60)) {
			for _, revision := range checks.Texts("0b+-:_", 2) {
				v := api.DebVer{Epoch: epoch, Upstream: upstream, Revision: revision}
				text, good := wanted(v)
				if deb.Fit(v) != good || deb.Format(v) != text {
					t.Errorf("%q: Fit %v, Format %q, not %q", v, deb.Fit(v), deb.Format(v), text)
				}
				if !good {
					continue
				}
				there++
				if w, f := deb.Parse(text); f != (api.Fault{}) || v != w {
					t.Errorf("%q comes back as %q, %v", v, w, f)
				}
			}
		}
	}
	if there < 1000 {
		t.Errorf("only %d are fit", there)
	}
}

// P4.6
func TestHolds(t *testing.T) {
	ops := []string{"<<", "<=", "=", ">=", ">>"}
	holds := map[int][]string{-1: ops[:2], 0: ops[1:4], 1: ops[3:]}
	for _, c := range []struct {
		a, b string
		want int
	}{
		{"1", "2", -1}, {"2", "1", 1}, {"1", "1", 0}, {"1.002", "1.2", 0}, {"1.0~rc1", "1.0", -1}, {"1:0", "9", 1}, {"1-1", "1", 1}, {"1-0", "1", 0}, {"1", "1-~", 1}, {"0:1", "00:1", 0}, {"1.0a", "1.0+", -1},
		{far, farther, -1}, {farther, far, 1}, {"1-" + far, "1-00" + far, 0},
	} {
		for _, op := range ops {
			if got, want := deb.Holds(c.a, op, c.b), slices.Contains(holds[c.want], op); got != want {
				t.Errorf("Holds(%q, %q, %q) = %v", c.a, op, c.b, got)
			}
		}
		for _, op := range []string{"", "<", ">", "==", "!=", "=<", "=>", "<<=", ">>>", " =", "= ", "=\x00", "le", "~", "<>"} {
			if deb.Holds(c.a, op, c.b) {
				t.Errorf("Holds(%q, %q, %q)", c.a, op, c.b)
			}
		}
	}
	for _, op := range ops {
		for _, none := range noVersions() {
			for _, s := range []string{"1", "99:99", none, ""} {
				if deb.Holds(none, op, s) || deb.Holds(s, op, none) {
					t.Errorf("%s holds of %q and %q", op, none, s)
				}
			}
		}
	}
}

// P4.7, and rule 0.5: the list that is handed in stays, with what lies in its spare room, and the answer is memory of its own.
func TestSort(t *testing.T) {
	for _, wrong := range checks.Sorts(append(noVersions(), ladder()...), deb.Sort) {
		t.Error("Sort: " + wrong)
	}
}

// P4.7: the alike stay in their order.
func TestSortKeepsTheAlike(t *testing.T) {
	early := []string{"1.2", "0:1.2", "01.2", "1.002-0", "1.2-00", "00:1.02"}
	late := []string{"2:1", "02:1", "2:01", "2:1-0", "002:1-00", "2:001"}
	for _, wrong := range checks.Stays(early, late, deb.Sort) {
		t.Error("Sort: " + wrong)
	}
}
