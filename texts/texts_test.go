package texts_test

import (
	"cmp"
	"slices"
	"testing"

	"dovetail/api"
	"dovetail/checks"
	"dovetail/texts"
)

// parse takes one digit, and perhaps a byte behind it that plays no part.
func parse(s string) (int, api.Fault) {
	if len(s) == 0 || len(s) > 2 || s[0] < '0' || s[0] > '9' {
		return 0, api.Fault{Err: api.ErrForm}
	}
	return int(s[0]), api.Fault{}
}

// fall puts the greater one ahead, so that byte by byte would not do.
func fall(a, b int) int { return cmp.Compare(b, a) }

func compare(a, b string) int { return texts.Compare(a, b, parse, fall) }

func TestCompare(t *testing.T) {
	for _, wrong := range checks.Rising([]string{"", "999", "a", "b", "\xff", "9", "5x", "1", "0"}, compare) {
		t.Error("Compare: " + wrong)
	}
	for _, wrong := range checks.Alike([][]string{{"5", "5x", "5y"}, {""}, {"a"}}, compare) {
		t.Error("Compare: " + wrong)
	}
}

func TestCompareLoosely(t *testing.T) {
	loosely := func(a, b string) int { return texts.CompareLoosely(a, b, parse, fall) }
	none := []string{"", "999", "a", "b", "\xff"}
	for _, a := range none {
		for _, wrong := range checks.Rising([]string{a, "9", "5x", "1", "0"}, loosely) {
			t.Error("CompareLoosely: " + wrong)
		}
	}
	for _, wrong := range checks.Alike([][]string{none, {"5", "5x", "5y"}}, loosely) {
		t.Error("CompareLoosely: " + wrong)
	}
}

func TestEpoch(t *testing.T) {
	for _, c := range []struct {
		s, epoch string
		behind   int
	}{
		{"1:2", "1", 2}, {"10:", "10", 3}, {"007:a", "7", 4}, {"0:1", "0", 2}, {"000:", "0", 4}, {"1:2:3", "1", 2}, {"18446744073709551616:1", "18446744073709551616", 21},
		{"", "0", 0}, {"1", "0", 0}, {":", "0", 0}, {":1", "0", 0}, {"a:1", "0", 0}, {"1a:1", "0", 0}, {"1.2:3", "0", 0}, {" 1:2", "0", 0}, {"1 :2", "0", 0}, {"1;2", "0", 0}, {"\xd9\xa1:1", "0", 0},
	} {
		if epoch, behind := texts.Epoch(c.s); epoch != c.epoch || behind != c.behind {
			t.Errorf("Epoch(%q) = %q, %d", c.s, epoch, behind)
		}
	}
}

func TestLine(t *testing.T) {
	for s, want := range map[string][]int{"": {1}, "ab": {1, 1, 1}, "\n": {1, 2}, "a\n\nb\n": {1, 1, 2, 3, 3, 4}, "\r\n\v\r\u2028": {1, 1, 2, 2, 2, 2, 2, 2}} {
		for at, line := range want {
			if got := texts.Line(s, at); got != line {
				t.Errorf("Line(%q, %d) = %d", s, at, got)
			}
		}
	}
}

// cutTwo is a text's first two bytes, and "-" of nothing.
func cutTwo(s string) (string, string) {
	if s == "" {
		return "-", ""
	}
	end := min(2, len(s))
	return s[:end], s[end:]
}

func TestSideBySide(t *testing.T) {
	for pair, want := range map[[2]string][]string{
		{"", ""}: nil, {"abcd", "ABCD"}: {"ab AB", "cd CD"}, {"abc", "AB"}: {"ab AB", "c -"}, {"", "ABCD"}: {"- AB", "- CD"}, {"a", ""}: {"a -"},
	} {
		var got []string
		for x, y := range texts.SideBySide(pair[0], pair[1], cutTwo) {
			got = append(got, x+" "+y)
		}
		if !slices.Equal(got, want) {
			t.Errorf("SideBySide(%q) = %q", pair, got)
		}
	}
	for x, y := range texts.SideBySide("abcd", "ABCD", cutTwo) {
		if x != "ab" || y != "AB" {
			t.Errorf("%q and %q first", x, y)
		}
		break
	}
}

func TestSort(t *testing.T) {
	room := []string{"5x", "b", "0", "5", "9", "a", "5y", "spare"}
	kept := slices.Clone(room)
	got := texts.Sort(room[:7], parse, fall)
	if want := []string{"a", "b", "9", "5x", "5", "5y", "0"}; !slices.Equal(got, want) {
		t.Errorf("Sort = %q", got)
	}
	got[0] = "changed"
	_ = append(got, "changed")
	if !slices.Equal(room, kept) {
		t.Errorf("the list is now %q", room)
	}
	for _, none := range [][]string{nil, {}, room[:0]} {
		if got := texts.Sort(none, parse, fall); len(got) != 0 {
			t.Errorf("Sort of none = %q", got)
		}
	}
}

func TestLatest(t *testing.T) {
	short := func(s string) bool { return len(s) < 3 }
	for _, c := range []struct {
		l    []string
		want string
		ok   bool
	}{
		{nil, "", false}, {[]string{}, "", false}, {[]string{"999", "000"}, "", false}, {[]string{""}, "", true}, {[]string{"a"}, "a", true},
		{[]string{"9", "1", "5"}, "1", true}, {[]string{"5x", "5", "5y", "9"}, "5x", true}, {[]string{"000", "9", "000"}, "9", true}, {[]string{"b", "a", ""}, "b", true}, {[]string{"", "a"}, "a", true},
	} {
		kept := slices.Clone(c.l)
		if got, ok := texts.Latest(c.l, short, compare); got != c.want || ok != c.ok || !slices.Equal(c.l, kept) {
			t.Errorf("Latest(%q) = %q, %v", kept, got, ok)
		}
	}
}
