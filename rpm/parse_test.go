package rpm_test

import (
	"regexp"
	"strings"
	"testing"

	"dovetail/api"
	"dovetail/checks"
	"dovetail/rpm"
)

// evr is a version without a release, or with the one that is told.
func evr(epoch, ver string, rel ...string) api.Evr {
	v := api.Evr{Epoch: epoch, Ver: ver}
	if len(rel) > 0 {
		v.Rel, v.HasRel = rel[0], true
	}
	return v
}

// P5.1: versions.
func TestParse(t *testing.T) {
	nines := strings.Repeat("9", 60)
	for s, want := range map[string]api.Evr{
		"2:1.0-3": evr("2", "1.0", "3"), "1.0": evr("0", "1.0"), "1.0-3": evr("0", "1.0", "3"), "2:1.0": evr("2", "1.0"),
		"1": evr("0", "1"), "0": evr("0", "0"), "007": evr("0", "007"), "12345": evr("0", "12345"), "1-1": evr("0", "1", "1"), "1-007": evr("0", "1", "007"),
		"a": evr("0", "a"), "Z": evr("0", "Z"), ".": evr("0", "."), "_": evr("0", "_"), "+": evr("0", "+"), "~": evr("0", "~"), "^": evr("0", "^"), "~^": evr("0", "~^"), "^~": evr("0", "^~"), "~~": evr("0", "~~"), "^^": evr("0", "^^"),
		"aZ09._+~^": evr("0", "aZ09._+~^"), "1-aZ09._+~^": evr("0", "1", "aZ09._+~^"), "1-.": evr("0", "1", "."), "1-_": evr("0", "1", "_"), "1-+": evr("0", "1", "+"), "1-~": evr("0", "1", "~"), "1-^": evr("0", "1", "^"), "~-~": evr("0", "~", "~"), "a-b": evr("0", "a", "b"),
		"1.0~rc1-1": evr("0", "1.0~rc1", "1"), "1.0^git1-0.1.fc40": evr("0", "1.0^git1", "0.1.fc40"),

		"0:1": evr("0", "1"), "000:1": evr("0", "1"), "01:1": evr("1", "1"), "0010:1": evr("10", "1"), "100:1": evr("100", "1"), "0:0-0": evr("0", "0", "0"), "1:a": evr("1", "a"), "1:~": evr("1", "~"), "1:.-.": evr("1", ".", "."), "00:007-008": evr("0", "007", "008"),
		farther + ":" + far: evr(farther, far), "00" + farther + ":" + far + "-" + far: evr(farther, far, far),

		nines + "1234":                        evr("0", nines+"1234"),
		"1:" + nines + "-1":                   evr("1", nines, "1"),
		"1-" + nines + "12":                   evr("0", "1", nines+"12"),
		strings.Repeat("0", 62) + ":1":        evr("0", "1"),
		strings.Repeat("9", 62) + ":1":        evr(strings.Repeat("9", 62), "1"),
		strings.Repeat("0", 61) + "7:1":       evr("7", "1"),
		strings.Repeat("~", 64):               evr("0", strings.Repeat("~", 64)),
		"1:" + strings.Repeat("^", 60) + "-a": evr("1", strings.Repeat("^", 60), "a"),
	} {
		v, f := rpm.Parse(s)
		if f != (api.Fault{}) || v != want {
			t.Errorf("Parse(%q) = %+v, %v, not %+v", s, v, f, want)
		}
	}
}

// P5.1: what is none, and where.
func TestParseFaults(t *testing.T) {
	form, short, long := api.ErrForm, api.ErrShort, api.ErrLong
	for s, want := range map[string]api.Fault{
		"": {Err: short, At: 0}, "1:": {Err: short, At: 2}, "00:": {Err: short, At: 3}, "123:": {Err: short, At: 4},
		"1-": {Err: short, At: 2}, "1.0-": {Err: short, At: 4}, "a-": {Err: short, At: 2}, "1:2-": {Err: short, At: 4}, "~-": {Err: short, At: 2},

		":": {Err: form, At: 0}, ":1": {Err: form, At: 0}, "::": {Err: form, At: 0}, "-": {Err: form, At: 0}, "-1": {Err: form, At: 0}, "--": {Err: form, At: 0}, "-1:2": {Err: form, At: 0}, " ": {Err: form, At: 0}, " 1": {Err: form, At: 0}, "\x00": {Err: form, At: 0}, "\xff": {Err: form, At: 0}, "\xd9\xa1": {Err: form, At: 0}, "/": {Err: form, At: 0},
		"1::": {Err: form, At: 2}, "1::2": {Err: form, At: 2}, "1:-": {Err: form, At: 2}, "1:-1": {Err: form, At: 2}, "1: 1": {Err: form, At: 2}, "12:-": {Err: form, At: 3}, "00::1": {Err: form, At: 3},
		"1:2:": {Err: form, At: 3}, "1:2:3": {Err: form, At: 3}, "1:a:2": {Err: form, At: 3}, "a:1": {Err: form, At: 1}, "1a:1": {Err: form, At: 2}, "a1:1": {Err: form, At: 2}, "1.0:1": {Err: form, At: 3}, "~1:2": {Err: form, At: 2}, "1^:2": {Err: form, At: 2}, "1_:": {Err: form, At: 2}, "+1:1": {Err: form, At: 2},
		"1-:": {Err: form, At: 2}, "1-2:": {Err: form, At: 3}, "1-2:3": {Err: form, At: 3}, "1:2-3:4": {Err: form, At: 5}, "1--": {Err: form, At: 2}, "1--2": {Err: form, At: 2}, "1-2-": {Err: form, At: 3}, "1-2-3": {Err: form, At: 3}, "1:2-3-4": {Err: form, At: 5}, "1- 2": {Err: form, At: 2}, "1-2 ": {Err: form, At: 3}, "1-2\n": {Err: form, At: 3}, "1-\xff": {Err: form, At: 2},
		"1 ": {Err: form, At: 1}, "1 :2": {Err: form, At: 1}, "1 -2": {Err: form, At: 1}, "1\n": {Err: form, At: 1}, "1\x00": {Err: form, At: 1}, "1\xc3\xa9": {Err: form, At: 1}, "1/2:3": {Err: form, At: 1}, "1(": {Err: form, At: 1},

		strings.Repeat("1", 65):               {Err: long, At: 64},
		strings.Repeat(" ", 64):               {Err: form, At: 0},
		strings.Repeat(" ", 65):               {Err: long, At: 64},
		strings.Repeat("1", 63) + ":":         {Err: short, At: 64},
		strings.Repeat("1", 63) + "-":         {Err: short, At: 64},
		strings.Repeat("1", 63) + " ":         {Err: form, At: 63},
		strings.Repeat("1", 64) + " ":         {Err: long, At: 64},
		strings.Repeat("1", 64) + "-":         {Err: long, At: 64},
		strings.Repeat("1", 62) + "--":        {Err: form, At: 63},
		strings.Repeat("0", 63) + ":1":        {Err: long, At: 64},
		strings.Repeat("0", 64) + ":1":        {Err: long, At: 64},
		":" + strings.Repeat("1", 64):         {Err: long, At: 64},
		"1:" + strings.Repeat("a", 61) + "-1": {Err: long, At: 64},
		"1-" + strings.Repeat("a", 63):        {Err: long, At: 64},
		strings.Repeat("1:", 5000):            {Err: long, At: 64},
	} {
		if v, f := rpm.Parse(s); f != want || v != (api.Evr{}) {
			t.Errorf("Parse(%q) = %+v, %v, not %v", s, v, f, want)
		}
	}
}

// P5.1: which bytes may stand where, all of them.
func TestParseBytes(t *testing.T) {
	part := "0123456789ABCDEFGHIJKLMNOPQRSTUVWXYZabcdefghijklmnopqrstuvwxyz._+~^"
	for c := range 256 {
		b := string([]byte{byte(c)})
		for _, place := range []struct{ ahead, behind, takes string }{
			{"", "1", part}, {"1", "1", part + "-:"}, {"a", "1", part + "-"}, {"a1", "1", part + "-"}, {".", "1", part + "-"},
			{"1:", "1", part}, {"1:1", "1", part + "-"}, {"1:a", "1", part + "-"},
			{"1-", "1", part}, {"1-1", "1", part}, {"1:1-", "", part}, {"1:1-1", "", part},
		} {
			v, f := rpm.Parse(place.ahead + b + place.behind)
			if takes := strings.Contains(place.takes, b); takes != (f == api.Fault{}) {
				t.Errorf("Parse(%q) = %+v, %v", place.ahead+b+place.behind, v, f)
			} else if !takes && f != (api.Fault{Err: api.ErrForm, At: len(place.ahead)}) {
				t.Errorf("Parse(%q) = %v", place.ahead+b+place.behind, f)
			}
		}
	}
}

var textForm = regexp.MustCompile(`^(?:([0-9]+):)?([0-9A-Za-z._+~^]+)(-[0-9A-Za-z._+~^]+)?$`)

// wantedVersion is the chapter's section 'The text' as a form.
func wantedVersion(s string) (api.Evr, bool) {
	m := textForm.FindStringSubmatch(s)
	if m == nil {
		return api.Evr{}, false
	}
	epoch := strings.TrimLeft(m[1], "0")
	if epoch == "" {
		epoch = "0"
	}
	if m[3] == "" {
		return evr(epoch, m[2]), true
	}
	return evr(epoch, m[2], m[3][1:]), true
}

// wantedParse is P5.1 by its words: a beginning can go on just if it is a version, or one with a byte more is.
func wantedParse(s string) (api.Evr, api.Fault) {
	if v, ok := wantedVersion(s); ok {
		return v, api.Fault{}
	}
	for i := range len(s) {
		_, whole := wantedVersion(s[:i+1])
		if _, begun := wantedVersion(s[:i+1] + "a"); !whole && !begun {
			return api.Evr{}, api.Fault{Err: api.ErrForm, At: i}
		}
	}
	return api.Evr{}, api.Fault{Err: api.ErrShort, At: len(s)}
}

// everyText is all short texts, and all short ends behind some beginnings.
func everyText() []string {
	every := checks.Texts("01a~.-: ", 5)
	for _, s := range checks.Texts("0Z^_+-:", 4) {
		every = append(every, "1"+s, "1a"+s, "00:1"+s, "07:~"+s, "1:2-3"+s, "1-"+s, "1:2-"+s)
	}
	return every
}

// P5.1, and P5.8 from the text to the version and back, by their words.
func TestParseEverywhere(t *testing.T) {
	versions := 0
	for _, s := range everyText() {
		v, f := rpm.Parse(s)
		if w, g := wantedParse(s); v != w || f != g {
			t.Errorf("Parse(%q) = %+v, %v, not %+v, %v", s, v, f, w, g)
		}
		if f != (api.Fault{}) {
			continue
		}
		versions++
		text := rpm.Text(v)
		if w, g := rpm.Parse(text); !rpm.Fit(v) || g != (api.Fault{}) || v != w || rpm.Compare(s, text) != 0 || rpm.Compare(text, s) != 0 {
			t.Errorf("Parse(%q) = %+v, whose text is %q", s, v, text)
		}
	}
	if versions < 5000 {
		t.Errorf("only %d versions among the texts", versions)
	}
}
