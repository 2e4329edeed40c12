package texts_test

import (
	"cmp"
	"slices"
	"testing"

	"dovetail/api"
	"dovetail/checks"
	"dovetail/texts"
)

// parse takes one digit, and perhaps a byte behind it that plays no part.
func parse(s string) (int, api.Fault) {
	if len(s) == 0 || len(s) > 2 || s[0] < '0' || s[0] > '9' {
		return 0, api.Fault{Err: api.ErrForm}
	}
	return int(s[0]), api.Fault{}
}

// fall puts the greater one ahead, so that byte by byte would not do.
func fall(a, b int) int { return cmp.Compare(b, a) }

func compare(a, b string) int { return texts.Compare(a, b, parse, fall) }

func TestCompare(t *testing.T) {
	for _, wrong := range checks.Rising([]string{"", "999", "a", "b", "\xff", "9", "5x", "1", "0"}, compare) {
		t.Error("Compare: " + wrong)
	}
	for _, pair := range [][2]string{{"5", "5x"}, {"5y", "5x"}, {"", ""}, {"a", "a"}} {
		if compare(pair[0], pair[1]) != 0 {
			t.Errorf("%q and %q are not alike", pair[0], pair[1])
		}
	}
}

func TestSort(t *testing.T) {
	room := []string{"5x", "b", "0", "5", "9", "a", "5y", "spare"}
	kept := slices.Clone(room)
	got := texts.Sort(room[:7], parse, fall)
	if want := []string{"a", "b", "9", "5x", "5", "5y", "0"}; !slices.Equal(got, want) {
		t.Errorf("Sort = %q", got)
	}
	got[0] = "changed"
	_ = append(got, "changed")
	if !slices.Equal(room, kept) {
		t.Errorf("the list is now %q", room)
	}
	for _, none := range [][]string{nil, {}, room[:0]} {
		if got := texts.Sort(none, parse, fall); len(got) != 0 {
			t.Errorf("Sort of none = %q", got)
		}
	}
}
