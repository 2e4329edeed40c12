package mvnspec_test

import (
	"slices"
	"strings"
	"testing"

	"dovetail/api"
	"dovetail/checks"
	"dovetail/mvnspec"
)

// farApart is two ranges whose text has so many bytes, 202 to 263.
func farApart(length int) api.Mavens {
	ones := strings.Repeat("1", 62)
	last := "4." + ones[:length-len("[,),[,)")-3*64-len("4.")]
	return ranges(between("[)", "1."+ones, "2."+ones), between("[)", "3."+ones, last))
}

// fit is requirements, by their texts.
func fit() map[string]api.Mavens {
	return map[string]api.Mavens{
		"1": soft("1"), "1.0-SNAPSHOT": soft("1.0-SNAPSHOT"), "-": soft("-"), strings.Repeat("x", 64): soft(strings.Repeat("x", 64)), "2": {Soft: "2", Ranges: []api.Mrange{}},
		"[1]": ranges(between("[]", "1", "1")), "[1.0]": ranges(between("[]", "1.0", "1.0")), "[1,1.0]": ranges(between("[]", "1", "1.0")), "[x,X]": ranges(between("[]", "x", "X")), "[1,2]": ranges(between("[]", "1", "2")), "[1,2)": ranges(between("[)", "1", "2")), "(1,2]": ranges(between("(]", "1", "2")), "(1,2)": ranges(between("()", "1", "2")),
		"[1,]": ranges(between("[]", "1", "")), "[1,)": ranges(between("[)", "1", "")), "(1,]": ranges(between("(]", "1", "")), "(1,)": ranges(between("()", "1", "")), "[,2]": ranges(between("[]", "", "2")), "[,2)": ranges(between("[)", "", "2")), "(,2]": ranges(between("(]", "", "2")), "(,2)": ranges(between("()", "", "2")), "[,]": ranges(between("[]", "", "")), "[,)": ranges(between("[)", "", "")), "(,]": ranges(between("(]", "", "")), "(,)": ranges(between("()", "", "")),
		"[1,2),[2],(2,)": ranges(between("[)", "1", "2"), between("[]", "2", "2"), between("()", "2", "")), "(,1.0],[1.2,)": ranges(between("(]", "", "1.0"), between("[)", "1.2", "")), "[1,1.0],(1-ga,2)": ranges(between("[]", "1", "1.0"), between("()", "1-ga", "2")),
	}
}

// unfit is requirements that no text is read as.
func unfit() []api.Mavens {
	one := between("[]", "1", "1")
	l := []api.Mavens{
		{}, ranges([]api.Mrange{}...), {Soft: "1", Ranges: []api.Mrange{one}}, {Soft: "!", Ranges: []api.Mrange{one}}, {Soft: "[1]", Ranges: []api.Mrange{one}}, {Soft: "1", Ranges: []api.Mrange{{}}},
		// An end that is told as absent and has a text, and one that is told as there and has none.
		ranges(api.Mrange{Lo: "1", HasHi: true, Hi: "2"}), ranges(api.Mrange{HasLo: true, Lo: "1", Hi: "2"}), ranges(api.Mrange{Lo: "1"}), ranges(api.Mrange{Hi: "1"}), ranges(api.Mrange{Lo: "1", LoIn: true, HasHi: true, Hi: "1", HiIn: true}), ranges(api.Mrange{HasLo: true, Lo: "1", LoIn: true, Hi: "1", HiIn: true}), ranges(api.Mrange{Lo: "1", LoIn: true, Hi: "1", HiIn: true}), ranges(api.Mrange{Lo: "!"}), ranges(api.Mrange{Hi: " "}), ranges(api.Mrange{Lo: "1,", Hi: ",2"}),
		ranges(api.Mrange{HasLo: true}), ranges(api.Mrange{HasHi: true}), ranges(api.Mrange{HasLo: true, HasHi: true}), ranges(api.Mrange{HasLo: true, LoIn: true, HasHi: true, HiIn: true}), ranges(api.Mrange{HasLo: true, HasHi: true, Hi: "1"}), ranges(api.Mrange{HasLo: true, Lo: "1", HasHi: true}),
		// What Parse refuses.
		ranges(between("[]", "2", "1")), ranges(between("()", "1.0.1", "1")), ranges(between("[)", "1", "1")), ranges(between("(]", "1", "1.0")), ranges(between("()", "1", "1")),
		ranges(one, one), ranges(one, between("[]", "1.0", "2")), ranges(between("[]", "1", "2"), between("[]", "1.5", "3")), ranges(between("[]", "3", "4"), one), ranges(between("[)", "1", ""), between("[]", "2", "3")), ranges(one, between("(]", "", "2")), ranges(between("()", "", ""), between("()", "", "")), ranges(one, between("[]", "2", "2"), between("[]", "2", "3")), ranges(one, api.Mrange{}), ranges(api.Mrange{}, one), ranges(one, between("[]", "2", "!")),
		farApart(257), farApart(263),
	}
	for _, bad := range []string{" ", " 1", "1 ", "\t1", "1\t", "1 2", "!", "1!", "1,2", ",", "[", "]", "(", ")", "[1", "1]", "[1]", "(1)", "[1,2]", "1],[2", "\n", "1\n", "\x00", "\xff", "\xc3\xa9", strings.Repeat("1", 65), strings.Repeat("1", 300), strings.Repeat(" ", 250) + "1"} {
		l = append(l, soft(bad), ranges(between("[]", bad, bad)), ranges(between("[)", bad, "")), ranges(between("(]", "", bad)), ranges(one, between("()", bad, "9")), ranges(between("[]", "0", bad), between("()", "9", "")))
	}
	return append(l, ranges(append(readAs(rising(32)).Ranges, between("[]", "32", "32"))...), ranges(slices.Repeat([]api.Mrange{one}, 1000)...))
}

// readAs is what a text is read as.
func readAs(s string) api.Mavens {
	m, _ := mvnspec.Parse(s)
	return m
}

// P9.2 and P9.3
func TestFitAndText(t *testing.T) {
	for text, m := range fit() {
		if !mvnspec.Fit(m) || mvnspec.Text(m) != text || !same(readAs(text), m) {
			t.Errorf("%+v, fit %v, is written %q, not %q, or that is read as %+v", m, mvnspec.Fit(m), mvnspec.Text(m), text, readAs(text))
		}
	}
	for _, length := range []int{202, 255, 256} {
		m := farApart(length)
		if text := mvnspec.Text(m); !mvnspec.Fit(m) || len(text) != length || !same(readAs(text), m) {
			t.Errorf("what has %d bytes is written %q", length, text)
		}
	}
}

// P9.2, P9.3 and P9.4, of what is not fit.
func TestUnfit(t *testing.T) {
	for _, m := range unfit() {
		if mvnspec.Fit(m) || mvnspec.Text(m) != "" {
			t.Errorf("%+v, fit %v, is written %q", m, mvnspec.Fit(m), mvnspec.Text(m))
		}
		for _, v := range []string{"0", "1", "1.5", "2", "9", "!", "", "[1]", m.Soft} {
			if mvnspec.Wants(m, v) {
				t.Errorf("%+v wants %q", m, v)
			}
		}
	}
}

// wantedFit is P9.2 by the chapter's words on what is parsed, of what is short enough.
func wantedFit(m api.Mavens) bool {
	if m.Soft != "" || len(m.Ranges) == 0 {
		return goodVersion.MatchString(m.Soft) && len(m.Ranges) == 0
	}
	for i, r := range m.Ranges {
		if r.HasLo != goodVersion.MatchString(r.Lo) || r.HasHi != goodVersion.MatchString(r.Hi) || !r.HasLo && r.Lo != "" || !r.HasHi && r.Hi != "" || !mayFollow(m.Ranges[:i], r) {
			return false
		}
	}
	return len(m.Ranges) <= 32
}

// wantedText is P9.3 by its words.
func wantedText(m api.Mavens) string {
	text := m.Soft
	for i, r := range m.Ranges {
		if i > 0 {
			text += ","
		}
		text += map[bool]string{true: "[", false: "("}[r.LoIn]
		if one := r.HasLo && r.HasHi && r.LoIn && r.HiIn && r.Lo == r.Hi; one {
			text += r.Lo
		} else {
			text += r.Lo + "," + r.Hi
		}
		text += map[bool]string{true: "]", false: ")"}[r.HiIn]
	}
	return text
}

// everyRange is each range with some ends, fit and not.
func everyRange(ends []string) []api.Mrange {
	var l []api.Mrange
	for _, lo := range ends {
		for _, hi := range ends {
			for bits := range 16 {
				l = append(l, api.Mrange{HasLo: bits&1 > 0, Lo: lo, LoIn: bits&2 > 0, HasHi: bits&4 > 0, Hi: hi, HiIn: bits&8 > 0})
			}
		}
	}
	return l
}

// P9.2 and P9.3 by their words, and P9.6.
func TestFitEverywhere(t *testing.T) {
	rows := slices.Concat(
		checks.Lists(everyRange([]string{"", "1", "1.0", "2", "!", " 1", "1,2", "]", "[1"}), 1),
		checks.Lists(everyRange([]string{"", "1", "2.0"}), 2),
		checks.Lists([]api.Mrange{between("[]", "1", "1"), between("()", "1.0", "2"), between("[)", "1", "2"), between("[]", "2", "2-ga"), between("(]", "2", "3"), between("()", "3", ""), between("(]", "", "1"), between("[)", "", "1"), between("[]", "2", "")}, 4),
	)
	there := 0
	for _, row := range rows {
		for _, alone := range []string{"", "1"} {
			m := api.Mavens{Soft: alone, Ranges: row}
			text, want := "", wantedFit(m)
			if want {
				there++
				text = wantedText(m)
			}
			if mvnspec.Fit(m) != want || mvnspec.Text(m) != text {
				t.Fatalf("%+v, fit %v, is written %q, not %q", m, !want, mvnspec.Text(m), text)
			}
			if want && !same(readAs(text), m) {
				t.Fatalf("%+v, written %q, is read as %+v", m, text, readAs(text))
			}
		}
	}
	if there < 200 {
		t.Errorf("only %d are fit", there)
	}
}

// P9.4
func TestWants(t *testing.T) {
	for _, c := range []struct {
		m       api.Mavens
		version string
		want    bool
	}{
		{soft("1.0"), "1.0", true}, {soft("1.0"), "0.1", true}, {soft("1.0"), "9", true}, {soft("1.0"), "x-SNAPSHOT", true}, {soft("1.0"), strings.Repeat("9", 64), true},
		{ranges(between("[)", "1.0", "2.0")), "1.0", true}, {ranges(between("[)", "1.0", "2.0")), "1", true}, {ranges(between("[)", "1.0", "2.0")), "1.5", true}, {ranges(between("[)", "1.0", "2.0")), "2.0", false}, {ranges(between("[)", "1.0", "2.0")), "2", false}, {ranges(between("[)", "1.0", "2.0")), "2.0-SNAPSHOT", true}, {ranges(between("[)", "1.0", "2.0")), "1-SNAPSHOT", false}, {ranges(between("[)", "1.0", "2.0")), "0.9", false}, {ranges(between("[)", "1.0", "2.0")), "10", false},
		{ranges(between("(]", "1", "2")), "1.0", false}, {ranges(between("(]", "1", "2")), "2-ga", true}, {ranges(between("(]", "1", "2")), "2-sp", false}, {ranges(between("[]", "1", "2")), "2", true}, {ranges(between("()", "1", "2")), "2", false}, {ranges(between("()", "1", "2")), "1", false}, {ranges(between("()", "1", "2")), "1.0.1", true},
		{ranges(between("[]", "1.0", "1.0")), "1", true}, {ranges(between("[]", "1.0", "1.0")), "1-final", true}, {ranges(between("[]", "1.0", "1.0")), "1.0.1", false}, {ranges(between("[]", "1.0", "1.0")), "1-rc", false}, {ranges(between("[]", "1", "1.0")), "1-0", true},
		{ranges(between("()", "", "")), "alpha", true}, {ranges(between("[]", "", "")), "99", true}, {ranges(between("(]", "", "1")), "0", true}, {ranges(between("(]", "", "1")), "1.1", false}, {ranges(between("[)", "1", "")), "99", true}, {ranges(between("[)", "1", "")), "0.9", false}, {ranges(between("()", "1", "")), "1", false}, {ranges(between("[)", "", "1")), "1", false},
		{ranges(between("(]", "", "1.0"), between("[)", "1.2", "")), "1.0", true}, {ranges(between("(]", "", "1.0"), between("[)", "1.2", "")), "1.1", false}, {ranges(between("(]", "", "1.0"), between("[)", "1.2", "")), "1.2", true}, {ranges(between("[)", "1", "2"), between("()", "2", "3")), "2", false}, {ranges(between("[)", "1", "2"), between("[)", "2", "3")), "2", true}, {ranges(between("[)", "1", "2"), between("()", "2", "3")), "2.5", true},
	} {
		if got := mvnspec.Wants(c.m, c.version); got != c.want {
			t.Errorf("Wants(%+v, %q) = %v", c.m, c.version, got)
		}
	}
	for _, m := range fit() {
		for _, v := range []string{"", " ", " 1", "1 ", "1.5!", "1,2", "[1]", "(,)", "\xff", strings.Repeat("1", 65)} {
			if mvnspec.Wants(m, v) {
				t.Errorf("%+v wants %q", m, v)
			}
		}
	}
}

// P9.5
func TestMatch(t *testing.T) {
	for _, c := range []struct {
		s, version string
		want       bool
	}{
		{"1.0", "9", true}, {" 1.0 ", "0.1", true}, {"[1.0,2.0)", "1.5", true}, {"[1.0,2.0)", "2.0", false}, {"[1.0]", "1", true}, {" [ 1.0 ] ", "1", true}, {"[1.0]", "1.1", false}, {"(,1.0],[1.2,)", "1.1", false}, {"(,1.0] , [1.2,)", "1.2", true}, {"[,]", "x", true},
		{"", "1", false}, {" ", "1", false}, {"!", "1", false}, {"!", "!", false}, {"1 2", "1", false}, {"(1.0)", "1.0", false}, {"[2,1]", "1.5", false}, {"[1,2", "1.5", false}, {"[1,2],", "1.5", false}, {"[1,2],[1.5,3]", "1", false}, {rising(33), "1", false}, {rising(32), "31", true}, {"1" + strings.Repeat(" ", 256), "1", false}, {"1" + strings.Repeat(" ", 255), "1", true},
		{"1.0", "", false}, {"1.0", "!", false}, {"1.0", " 1", false}, {"1.0", "1 ", false}, {"[,]", "1,2", false}, {"[,]", "", false}, {"(,)", strings.Repeat("1", 65), false}, {"(,)", strings.Repeat("1", 64), true},
	} {
		if got := mvnspec.Match(c.s, c.version); got != c.want {
			t.Errorf("Match(%q, %q) = %v", c.s, c.version, got)
		}
	}
	for _, s := range checks.Texts("1[),! ", 4) {
		m, f := mvnspec.Parse(s)
		for _, v := range []string{"0", "1", "1.1", "11", "!", ""} {
			if want := f == (api.Fault{}) && mvnspec.Wants(m, v); mvnspec.Match(s, v) != want {
				t.Errorf("Match(%q, %q) is not %v", s, v, want)
			}
		}
	}
}

// Rule 0.5: what is handed in stays, with what lies in its spare room.
func TestRangesStay(t *testing.T) {
	all := unfit()
	for _, m := range fit() {
		all = append(all, m)
	}
	for _, m := range all {
		room := append(slices.Clone(m.Ranges), between("[]", "7", "8"), between("()", "spare", "room"))
		kept := slices.Clone(room)
		held := api.Mavens{Soft: m.Soft, Ranges: room[:len(m.Ranges)]}
		good, text, wants := mvnspec.Fit(held), mvnspec.Text(held), mvnspec.Wants(held, "1")
		if !slices.Equal(room, kept) {
			t.Errorf("%+v is now %+v", kept, room)
		}
		if good != mvnspec.Fit(m) || text != mvnspec.Text(m) || wants != mvnspec.Wants(m, "1") {
			t.Errorf("the spare room of %+v plays a part", m)
		}
	}
}
