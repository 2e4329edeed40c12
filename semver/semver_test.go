package semver_test

import (
	"math"
	"reflect"
	"regexp"
	"slices"
	"strings"
	"testing"

	"dovetail/api"
	"dovetail/checks"
	"dovetail/semver"
)

// ladder is versions, each one ahead of the next.
func ladder() []string {
	far := "9223372036854775807"
	farther := "18446744073709551616"
	return []string{
		"0.0.0-0", "0.0.0", "0.0.1", "0.0.2-x", "0.0.9", "0.0.10", "0.2.0", "0.10.0",
		"1.0.0--", "1.0.0--1", "1.0.0-1-", "1.0.0-A", "1.0.0-Z", "1.0.0-a-", "1.0.0-a0", "1.0.0-aa", "1.0.0-z",
		"1.0.0", "1.0.1", "1.2.3-0", "1.2.3-0.0", "1.2.3-0.a", "1.2.3-1", "1.2.3-2", "1.2.3-10",
		"1.2.3-" + far, "1.2.3-" + farther, "1.2.3-" + farther + "0", "1.2.3-01a", "1.2.3-a", "1.2.3-a.0", "1.2.3-a.0.0", "1.2.3-a.1", "1.2.3-a.a", "1.2.3-b",
		"1.2.3", "1.2." + far, "1.2." + farther, "1." + far + ".0", "1." + farther + ".0",
		"2.0.0", "10.0.0", far + ".0.0", farther + ".0.0-rc.1", farther + ".0.0",
	}
}

func mustParse(t *testing.T, s string) api.Sem {
	t.Helper()
	v, f := semver.Parse(s)
	if f != (api.Fault{}) {
		t.Fatalf("Parse(%q): %v", s, f)
	}
	return v
}

func zero(v api.Sem) bool {
	return v.Major == "" && v.Minor == "" && v.Patch == "" && v.Pre == nil && v.Build == nil
}

// alike holds versions against each other, nil and empty lists being the same.
func alike(a, b api.Sem) bool {
	return a.Major == b.Major && a.Minor == b.Minor && a.Patch == b.Patch && slices.Equal(a.Pre, b.Pre) && slices.Equal(a.Build, b.Build)
}

// P2.1: versions.
func TestParse(t *testing.T) {
	nines := strings.Repeat("9", 58)
	for s, want := range map[string]api.Sem{
		"1.2.3":               {Major: "1", Minor: "2", Patch: "3"},
		"0.0.0":               {Major: "0", Minor: "0", Patch: "0"},
		"10.20.30":            {Major: "10", Minor: "20", Patch: "30"},
		"1.2.3-a":             {Major: "1", Minor: "2", Patch: "3", Pre: []string{"a"}},
		"1.2.3-0":             {Major: "1", Minor: "2", Patch: "3", Pre: []string{"0"}},
		"1.2.3-01a":           {Major: "1", Minor: "2", Patch: "3", Pre: []string{"01a"}},
		"1.2.3-0-":            {Major: "1", Minor: "2", Patch: "3", Pre: []string{"0-"}},
		"1.2.3-00-0":          {Major: "1", Minor: "2", Patch: "3", Pre: []string{"00-0"}},
		"1.2.3--":             {Major: "1", Minor: "2", Patch: "3", Pre: []string{"-"}},
		"1.2.3--1.-.z-Z":      {Major: "1", Minor: "2", Patch: "3", Pre: []string{"-1", "-", "z-Z"}},
		"1.2.3-alpha.0.11":    {Major: "1", Minor: "2", Patch: "3", Pre: []string{"alpha", "0", "11"}},
		"1.2.3+01":            {Major: "1", Minor: "2", Patch: "3", Build: []string{"01"}},
		"1.2.3+00.01.0a.-":    {Major: "1", Minor: "2", Patch: "3", Build: []string{"00", "01", "0a", "-"}},
		"1.2.3-rc.1+x-y.007":  {Major: "1", Minor: "2", Patch: "3", Pre: []string{"rc", "1"}, Build: []string{"x-y", "007"}},
		"1.2.3+a-b":           {Major: "1", Minor: "2", Patch: "3", Build: []string{"a-b"}},
		nines + ".10.0":       {Major: nines, Minor: "10", Patch: "0"},
		"1.2.3-" + nines:      {Major: "1", Minor: "2", Patch: "3", Pre: []string{nines}},
		"1.2.3+" + nines:      {Major: "1", Minor: "2", Patch: "3", Build: []string{nines}},
		"10.2." + nines + "9": {Major: "10", Minor: "2", Patch: nines + "9"},
	} {
		v, f := semver.Parse(s)
		if f != (api.Fault{}) || !alike(v, want) {
			t.Errorf("Parse(%q) = %q, %v", s, v, f)
		}
	}
}

// P2.1: what is none, and where.
func TestParseFaults(t *testing.T) {
	form, short, long, nought := api.ErrForm, api.ErrShort, api.ErrLong, api.ErrZero
	for s, want := range map[string]api.Fault{
		"": {Err: short, At: 0}, "1": {Err: short, At: 1}, "1.": {Err: short, At: 2}, "1.2": {Err: short, At: 3}, "1.2.": {Err: short, At: 4},
		"0": {Err: short, At: 1}, "0.0": {Err: short, At: 3}, "1.2.3-": {Err: short, At: 6}, "1.2.3+": {Err: short, At: 6},
		"1.2.3-a.": {Err: short, At: 8}, "1.2.3+a.": {Err: short, At: 8}, "1.2.3-a+": {Err: short, At: 8}, "1.2.3-1.": {Err: short, At: 8},

		"01.2.3": {Err: nought, At: 1}, "1.02.3": {Err: nought, At: 3}, "1.2.03": {Err: nought, At: 5}, "00.2.3": {Err: nought, At: 1}, "1.000": {Err: nought, At: 3},
		"00": {Err: nought, At: 1}, "1.2.00": {Err: nought, At: 5}, "1.2.00x": {Err: nought, At: 5}, "01x": {Err: nought, At: 1},

		"1.2.3-01": {Err: short, At: 8}, "1.2.3-00": {Err: short, At: 8}, "1.2.3-a.01": {Err: short, At: 10}, "1.2.3-a.000": {Err: short, At: 11},
		"1.2.3-01.x": {Err: nought, At: 8}, "1.2.3-01+x": {Err: nought, At: 8}, "1.2.3-00.": {Err: nought, At: 8}, "1.2.3-00+": {Err: nought, At: 8},
		"1.2.3-a.007.x": {Err: nought, At: 11}, "1.2.3-a.007+x": {Err: nought, At: 11}, "1.2.3-01_": {Err: form, At: 8}, "1.2.3-01 ": {Err: form, At: 8},

		"x": {Err: form, At: 0}, ".": {Err: form, At: 0}, "v1.2.3": {Err: form, At: 0}, " 1.2.3": {Err: form, At: 0}, "-1.2.3": {Err: form, At: 0}, "+1.2.3": {Err: form, At: 0},
		"1x": {Err: form, At: 1}, "1-a": {Err: form, At: 1}, "1..3": {Err: form, At: 2}, "1.x": {Err: form, At: 2}, "1.2-a": {Err: form, At: 3}, "1.2+a": {Err: form, At: 3},
		"1.2..": {Err: form, At: 4}, "1.2.x": {Err: form, At: 4}, "1.2.-": {Err: form, At: 4}, "1.2.3.4": {Err: form, At: 5}, "1.2.3 ": {Err: form, At: 5}, "1.2.3x": {Err: form, At: 5}, "1.2.0x": {Err: form, At: 5},
		"1.2.3-.": {Err: form, At: 6}, "1.2.3-+": {Err: form, At: 6}, "1.2.3-a..b": {Err: form, At: 8}, "1.2.3-a.+b": {Err: form, At: 8}, "1.2.3-a_b": {Err: form, At: 7}, "1.2.3-a ": {Err: form, At: 7},
		"1.2.3+.": {Err: form, At: 6}, "1.2.3++": {Err: form, At: 6}, "1.2.3+a..b": {Err: form, At: 8}, "1.2.3+a+b": {Err: form, At: 7}, "1.2.3-a+b+c": {Err: form, At: 9}, "1.2.3+a ": {Err: form, At: 7}, "1.2.3+01+": {Err: form, At: 8},
		"1.2.3-\xc3\xa9": {Err: form, At: 6}, "1.2.3\x00": {Err: form, At: 5}, "1.2.3\n": {Err: form, At: 5}, "1.2.3-a\xff": {Err: form, At: 7}, "\xff": {Err: form, At: 0},

		strings.Repeat("9", 64):              {Err: short, At: 64},
		strings.Repeat("9", 65):              {Err: long, At: 64},
		strings.Repeat("x", 64):              {Err: form, At: 0},
		strings.Repeat("x", 65):              {Err: long, At: 64},
		"01.2.3" + strings.Repeat("4", 59):   {Err: long, At: 64},
		"1.2.3-" + strings.Repeat("a", 59):   {Err: long, At: 64},
		"1.2.3+" + strings.Repeat("a", 59):   {Err: long, At: 64},
		"1.2.3-" + strings.Repeat("0", 58):   {Err: short, At: 64},
		"1.2.3-" + strings.Repeat("a.", 29):  {Err: short, At: 64},
		"1.2.3-" + strings.Repeat("a", 5000): {Err: long, At: 64},
	} {
		if v, f := semver.Parse(s); f != want || !zero(v) {
			t.Errorf("Parse(%q) = %q, %v, not %v", s, v, f, want)
		}
	}
}

const (
	numberForm = `(0|[1-9][0-9]*)`
	preForm    = `(0|[1-9][0-9]*|[0-9]*[A-Za-z-][0-9A-Za-z-]*)`
	coreForm   = numberForm + `\.` + numberForm + `\.` + numberForm
)

// faultOf is P2.1 by its words: the first byte behind which no end makes a version of the text.
type faultOf struct{ version, zeroNumber, zeroPre *regexp.Regexp }

func newFaultOf() faultOf {
	return faultOf{
		version:    regexp.MustCompile(`^` + coreForm + `(-` + preForm + `(\.` + preForm + `)*)?(\+[0-9A-Za-z-]+(\.[0-9A-Za-z-]+)*)?$`),
		zeroNumber: regexp.MustCompile(`^(` + numberForm + `\.){0,2}0[0-9]$`),
		zeroPre:    regexp.MustCompile(`^` + coreForm + `-(` + preForm + `\.)*0[0-9]+[.+]$`),
	}
}

func (o faultOf) of(s string) api.Fault {
	at := checks.Begins(s, []string{"", "0", "a", ".0", "0.0", ".0.0", "0.0.0"}, o.version.MatchString)
	switch {
	case o.version.MatchString(s):
		return api.Fault{}
	case at == len(s):
		return api.Fault{Err: api.ErrShort, At: at}
	case o.zeroNumber.MatchString(s[:at+1]) || o.zeroPre.MatchString(s[:at+1]):
		return api.Fault{Err: api.ErrZero, At: at}
	}
	return api.Fault{Err: api.ErrForm, At: at}
}

// everyText is all short texts, and all short ends behind some beginnings.
func everyText() []string {
	every := checks.Texts("01.-+a_", 5)
	for _, s := range checks.Texts("01.-+aZ_", 4) {
		every = append(every, "1.2.3"+s, "1.2.3-"+s, "1.2.3-a."+s, "0.0.0+"+s, "1.2.3-a+0."+s, "1.0"+s)
	}
	return every
}

// P2.1, P2.2 and P2.8 by their words.
func TestParseEverywhere(t *testing.T) {
	oracle := newFaultOf()
	versions := 0
	for _, s := range everyText() {
		v, f := semver.Parse(s)
		if want := oracle.of(s); f != want {
			t.Errorf("Parse(%q) = %v, not %v", s, f, want)
		}
		if f != (api.Fault{}) {
			if !zero(v) {
				t.Errorf("Parse(%q) = %q beside %v", s, v, f)
			}
			continue
		}
		versions++
		if !semver.Fit(v) || semver.Format(v) != s {
			t.Errorf("Parse(%q) = %q, whose text is %q", s, v, semver.Format(v))
		}
	}
	if versions < 1000 {
		t.Errorf("only %d versions among the texts", versions)
	}
}

// unfit is versions that are none.
func unfit() []api.Sem {
	list := []api.Sem{
		{},
		{Major: "1", Minor: "2"},
		{Major: "1", Patch: "3"},
		{Minor: "2", Patch: "3"},
		{Major: strings.Repeat("9", 61), Minor: "0", Patch: "0"},
		{Major: "1", Minor: "2", Patch: "3", Pre: []string{strings.Repeat("a", 59)}},
		{Major: "1", Minor: "2", Patch: "3", Build: []string{strings.Repeat("a", 59)}},
		{Major: "1", Minor: "2", Patch: "3", Pre: slices.Repeat([]string{"a"}, 30)},
		{Major: "1", Minor: "2", Patch: "3", Build: slices.Repeat([]string{"a"}, 30)},
		{Major: "1", Minor: "2", Patch: "3", Pre: slices.Repeat([]string{"a"}, 15), Build: slices.Repeat([]string{"a"}, 15)},
		{Major: "1", Minor: "2", Patch: "3", Pre: []string{"01"}},
		{Major: "1", Minor: "2", Patch: "3", Pre: []string{"a", "00"}},
		{Major: "1", Minor: "2", Patch: "3", Pre: []string{"00", "a"}},
	}
	for _, bad := range []string{"", "01", "00", "x", "-1", "1.0", " 1", "1 ", "+1", "1-a", "\xff"} {
		list = append(list, api.Sem{Major: bad, Minor: "2", Patch: "3"}, api.Sem{Major: "1", Minor: bad, Patch: "3"}, api.Sem{Major: "1", Minor: "2", Patch: bad})
	}
	for _, bad := range []string{"", "a.b", "a+b", "_", "a b", "\xc3\xa9", "a\x00", "."} {
		list = append(list,
			api.Sem{Major: "1", Minor: "2", Patch: "3", Pre: []string{bad}}, api.Sem{Major: "1", Minor: "2", Patch: "3", Pre: []string{"a", bad}}, api.Sem{Major: "1", Minor: "2", Patch: "3", Pre: []string{bad, "a"}},
			api.Sem{Major: "1", Minor: "2", Patch: "3", Build: []string{bad}}, api.Sem{Major: "1", Minor: "2", Patch: "3", Build: []string{"a", bad}}, api.Sem{Major: "1", Minor: "2", Patch: "3", Build: []string{bad, "a"}})
	}
	return list
}

// P2.2
func TestFitAndFormat(t *testing.T) {
	for want, v := range map[string]api.Sem{
		"1.2.3":                               {Major: "1", Minor: "2", Patch: "3"},
		"0.0.0":                               {Major: "0", Minor: "0", Patch: "0", Pre: []string{}, Build: []string{}},
		"1.2.3-a.0.b":                         {Major: "1", Minor: "2", Patch: "3", Pre: []string{"a", "0", "b"}},
		"1.2.3-01a":                           {Major: "1", Minor: "2", Patch: "3", Pre: []string{"01a"}},
		"1.2.3+01.00":                         {Major: "1", Minor: "2", Patch: "3", Build: []string{"01", "00"}},
		"1.2.3--.-+-.-":                       {Major: "1", Minor: "2", Patch: "3", Pre: []string{"-", "-"}, Build: []string{"-", "-"}},
		"1.2.3-x.1+y.002":                     {Major: "1", Minor: "2", Patch: "3", Pre: []string{"x", "1"}, Build: []string{"y", "002"}},
		strings.Repeat("9", 60) + ".0.0":      {Major: strings.Repeat("9", 60), Minor: "0", Patch: "0"},
		"1.2.3-" + strings.Repeat("a", 58):    {Major: "1", Minor: "2", Patch: "3", Pre: []string{strings.Repeat("a", 58)}},
		"1.2.30-a" + strings.Repeat(".a", 28): {Major: "1", Minor: "2", Patch: "30", Pre: slices.Repeat([]string{"a"}, 29)},
		"1.2.30+a" + strings.Repeat(".a", 28): {Major: "1", Minor: "2", Patch: "30", Build: slices.Repeat([]string{"a"}, 29)},
	} {
		if !semver.Fit(v) || semver.Format(v) != want {
			t.Errorf("%q: Fit %v, Format %q, not %q", v, semver.Fit(v), semver.Format(v), want)
		}
	}
	for _, v := range unfit() {
		if semver.Fit(v) || semver.Format(v) != "" {
			t.Errorf("%q: Fit %v, Format %q", v, semver.Fit(v), semver.Format(v))
		}
	}
}

// P2.3
func TestOrder(t *testing.T) {
	for _, build := range []string{"", "+x", "+01.y", "+-"} {
		order := func(a, b string) int { return semver.Order(mustParse(t, a+build), mustParse(t, b)) }
		turned := func(a, b string) int { return semver.Order(mustParse(t, a), mustParse(t, b+build)) }
		for _, wrong := range slices.Concat(checks.Rising(ladder(), order), checks.Rising(ladder(), turned)) {
			t.Error("Order with " + build + ": " + wrong)
		}
	}
}

// P2.3: of what is not fit nothing is ahead.
func TestOrderOfUnfit(t *testing.T) {
	for _, v := range unfit() {
		for _, s := range []string{"0.0.0-0", "1.2.3", "1.2.3-a", "99.0.0"} {
			w := mustParse(t, s)
			if semver.Order(v, w) != 0 || semver.Order(w, v) != 0 || semver.Order(v, v) != 0 {
				t.Errorf("Order of %q and %q", v, w)
			}
		}
	}
	low, high := api.Sem{Major: "01", Minor: "0", Patch: "0"}, api.Sem{Major: "02", Minor: "0", Patch: "0"}
	if semver.Order(low, high) != 0 || semver.Order(high, low) != 0 {
		t.Error("Order of two that are not fit")
	}
}

// noVersions is texts that are none, rising byte by byte.
func noVersions() []string {
	return []string{"", " ", "1", "1.2", "1.2.03", "1.2.3 ", "1.2.3-01", "1.2.3-a..b", "9", "99", "v1.2.3", "v10.0.0", "v2.0.0", strings.Repeat("x", 65), "\xff"}
}

// P2.4
func TestCompare(t *testing.T) {
	for _, wrong := range checks.Rising(append(noVersions(), ladder()...), semver.Compare) {
		t.Error("Compare: " + wrong)
	}
	for _, pair := range [][2]string{{"1.0.0", "1.0.0+x"}, {"1.0.0+y", "1.0.0+x"}, {"1.0.0-a+y", "1.0.0-a"}} {
		if semver.Compare(pair[0], pair[1]) != 0 || semver.Compare(pair[1], pair[0]) != 0 {
			t.Errorf("Compare(%q, %q) is not 0", pair[0], pair[1])
		}
	}
	if semver.Compare("1.0.0+x.", "1.0.0") != -1 || semver.Compare("1.0.0", "9.0.0.") != 1 {
		t.Error("what is none is ahead")
	}
}

// P2.5
func TestNext(t *testing.T) {
	nines := strings.Repeat("9", 60)
	for _, c := range []struct {
		s    string
		part int
		want string
	}{
		{"1.2.3", 0, "2.0.0"}, {"1.2.3", 1, "1.3.0"}, {"1.2.3", 2, "1.2.4"},
		{"0.0.0", 0, "1.0.0"}, {"0.0.0", 1, "0.1.0"}, {"0.0.0", 2, "0.0.1"},
		{"9.99.999", 0, "10.0.0"}, {"9.99.999", 1, "9.100.0"}, {"9.99.999", 2, "9.99.1000"},
		{"1.2.3-a.1+b", 0, "2.0.0"}, {"1.2.3-a.1+b", 1, "1.3.0"}, {"1.2.3-a.1+b", 2, "1.2.4"},
		{"18446744073709551615.9223372036854775807.0", 0, "18446744073709551616.0.0"},
		{"18446744073709551615.9223372036854775807.0", 1, "18446744073709551615.9223372036854775808.0"},
		{"1.2.3", 3, ""}, {"1.2.3", -1, ""}, {"1.2.3", math.MaxInt, ""}, {"1.2.3", math.MinInt, ""}, {"1.2.3", 256, ""},
		{nines + ".0.0", 0, ""}, {"0." + nines + ".0", 1, ""}, {"0.0." + nines, 2, ""},
		{nines + ".0.0", 1, nines + ".1.0"}, {nines + ".0.9", 2, ""}, {nines + ".0.9", 1, nines + ".1.0"},
		{nines[1:] + ".0.9", 2, nines[1:] + ".0.10"}, {nines[1:] + ".0.9", 0, "1" + strings.Repeat("0", 59) + ".0.0"},
		{"0." + nines + ".0", 0, "1.0.0"}, {"0.0." + nines, 1, "0.1.0"},
		{nines[1:] + ".9.9", 1, nines[1:] + ".10.0"}, {nines[1:] + ".0.99", 2, ""},
	} {
		v := mustParse(t, c.s)
		got := semver.Next(v, c.part)
		if semver.Format(got) != c.want || c.want == "" && !zero(got) || len(got.Pre)+len(got.Build) > 0 {
			t.Errorf("Next(%q, %d) = %q, not %q", c.s, c.part, got, c.want)
		}
	}
	for _, v := range unfit() {
		for part := -1; part <= 3; part++ {
			if got := semver.Next(v, part); !zero(got) {
				t.Errorf("Next(%q, %d) = %q", v, part, got)
			}
		}
	}
}

// P2.6
func TestCanon(t *testing.T) {
	for s, want := range map[string]string{
		"1.2.3": "1.2.3", "1.2.3+x": "1.2.3", "1.2.3+x-y.01": "1.2.3", "1.2.3-a+x": "1.2.3-a", "1.2.3-a-b.0": "1.2.3-a-b.0", "1.2.3--+-": "1.2.3--",
		"": "", "1.2": "", "1.2.3+": "", "1.2.3+x+y": "", "1.2.3+x ": "", "01.2.3+x": "", "1.2.3-01+x": "", "1.2.3-01": "", "+": "", "v1.2.3": "",
		"1.2.3+" + strings.Repeat("x", 58): "1.2.3", "1.2.3+" + strings.Repeat("x", 59): "",
	} {
		if got := semver.Canon(s); got != want {
			t.Errorf("Canon(%q) = %q, not %q", s, got, want)
		}
	}
}

// P2.7, and rule 0.5: the list that is handed in stays, with what lies in its spare room, and the answer is memory of its own.
func TestSort(t *testing.T) {
	for _, wrong := range checks.Sorts(append(noVersions(), ladder()...), semver.Sort) {
		t.Error("Sort: " + wrong)
	}
}

// P2.7: the alike stay in their order.
func TestSortKeepsTheAlike(t *testing.T) {
	early := []string{"1.0.0-a", "1.0.0-a+2", "1.0.0-a+1", "1.0.0-a+-", "1.0.0-a+x.y"}
	late := []string{"1.0.0+37", "1.0.0", "1.0.0+4", "1.0.0+z", "1.0.0+00"}
	for _, wrong := range checks.Stays(early, late, semver.Sort) {
		t.Error("Sort: " + wrong)
	}
}

// P2.8: from the version to its text and back.
func TestThereAndBack(t *testing.T) {
	ids := [][]string{nil, {"a"}, {"0"}, {"-"}, {"01a", "10"}, {"a-b", "-", "0", "Z9"}}
	builds := append(ids, []string{"01"}, []string{"00", "-"})
	for _, major := range []string{"0", "7", "18446744073709551616"} {
		for _, pre := range ids {
			for _, build := range builds {
				v := api.Sem{Major: major, Minor: "10", Patch: "0", Pre: pre, Build: build}
				w, f := semver.Parse(semver.Format(v))
				if f != (api.Fault{}) || !alike(v, w) {
					t.Errorf("%q comes back as %q, %v", v, w, f)
				}
			}
		}
	}
}

// P2.9
func TestCompareIsAnOrder(t *testing.T) {
	l := append(noVersions(), ladder()...)
	l = append(l, "1.0.0+x", "1.0.0+y", "1.2.3-a+x", "1.2.3-a.0+x", "0.0.0+0", "0.0.0-0+0", "1.2.3+", "1.2.3-00.a")
	for _, wrong := range checks.Order(l, semver.Compare) {
		t.Error("Compare: " + wrong)
	}
}

// P2.10
func TestWhatIsAhead(t *testing.T) {
	for _, s := range append(ladder(), "1.0.0+x", "1.2.3-a+x", "0.0.0-0+0") {
		v := mustParse(t, s)
		for part := range 3 {
			if next := semver.Next(v, part); semver.Order(v, next) != -1 || semver.Compare(s, semver.Format(next)) != -1 {
				t.Errorf("%q is not ahead of its Next of %d, %q", s, part, next)
			}
		}
		bare := v
		bare.Pre = nil
		want := 0
		if len(v.Pre) > 0 {
			want = 1
		}
		if semver.Order(bare, v) != want {
			t.Errorf("%q without Pre", s)
		}
	}
}

// Rule 0.5: lists that are handed in stay, with what lies in their spare room, and answers are memory of their own.
func TestListsStay(t *testing.T) {
	room := []string{"b", "a", "spare", "room"}
	v := api.Sem{Major: "1", Minor: "2", Patch: "3", Pre: room[:2], Build: room[1:2]}
	w := api.Sem{Major: "1", Minor: "2", Patch: "3", Pre: room[:1], Build: room[:2]}
	semver.Fit(v)
	semver.Format(v)
	semver.Order(v, w)
	for part := range 4 {
		semver.Next(v, part)
	}
	if want := []string{"b", "a", "spare", "room"}; !slices.Equal(room, want) {
		t.Errorf("the lists are now %q", room)
	}
	if want := (api.Sem{Major: "1", Minor: "2", Patch: "3", Pre: []string{"b", "a"}, Build: []string{"a"}}); !reflect.DeepEqual(v, want) {
		t.Errorf("the version is now %q", v)
	}
	x := mustParse(t, "1.2.3-a.b.c+d.e")
	_, _ = append(x.Pre, "z"), append(x.Build, "z")
	x.Pre[2] = "q"
	if y := mustParse(t, "1.2.3-a.b.c+d.e"); semver.Format(y) != "1.2.3-a.b.c+d.e" || !slices.Equal(x.Build, []string{"d", "e"}) {
		t.Errorf("Parse = %q, then %q", x, y)
	}
}
