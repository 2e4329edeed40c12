package checks_test

import (
	"slices"
	"strings"
	"testing"

	"dovetail/checks"
)

func TestTexts(t *testing.T) {
	if got := checks.Texts("ab", 2); !slices.Equal(got, []string{"", "a", "b", "aa", "ab", "ba", "bb"}) {
		t.Errorf("Texts = %q", got)
	}
	if got := checks.Texts("", 3); !slices.Equal(got, []string{""}) {
		t.Errorf("Texts = %q", got)
	}
}

func TestRows(t *testing.T) {
	if got := checks.Rows([]string{"a", "bc"}, 2); !slices.Equal(got, []string{"", "a", "bc", "aa", "abc", "bca", "bcbc"}) {
		t.Errorf("Rows = %q", got)
	}
	if got := checks.Rows(nil, 3); !slices.Equal(got, []string{""}) {
		t.Errorf("Rows = %q", got)
	}
}

func TestLists(t *testing.T) {
	got := checks.Lists([]int{3, 5}, 2)
	if want := [][]int{nil, {3}, {5}, {3, 3}, {3, 5}, {5, 3}, {5, 5}}; !slices.EqualFunc(got, want, slices.Equal[[]int]) {
		t.Errorf("Lists = %v", got)
	}
	for _, list := range got {
		clear(list)
		_ = append(list, 7)
	}
	if !slices.Equal(slices.Concat(got...), make([]int, 10)) {
		t.Errorf("lists share memory: %v", got)
	}
	if got := checks.Lists([]int{}, 3); len(got) != 1 || len(got[0]) != 0 {
		t.Errorf("Lists = %v", got)
	}
	if got := checks.Lists([]int{3, 5}, 0); len(got) != 1 || len(got[0]) != 0 {
		t.Errorf("Lists = %v", got)
	}
}

func TestBegins(t *testing.T) {
	whole := func(s string) bool { return s == "" || s == "ab" || s == "abcd" }
	for s, want := range map[string]int{"": 0, "a": 1, "ab": 2, "abc": 3, "abcd": 4, "x": 0, "ax": 1, "abx": 2, "abdc": 2, "abcde": 4} {
		if got := checks.Begins(s, []string{"", "b", "d"}, whole); got != want {
			t.Errorf("Begins(%q) = %d", s, got)
		}
	}
}

func TestRising(t *testing.T) {
	if got := checks.Rising([]string{"a", "b", "c"}, strings.Compare); got != nil {
		t.Errorf("Rising = %q", got)
	}
	if got := checks.Rising([]string{"b", "a"}, strings.Compare); len(got) != 2 {
		t.Errorf("Rising = %q", got)
	}
	if got := checks.Rising([]string{"a", "a"}, strings.Compare); len(got) != 2 {
		t.Errorf("Rising = %q", got)
	}
}

func TestAlike(t *testing.T) {
	length := func(a, b string) int { return len(a) - len(b) }
	if got := checks.Alike([][]string{{"a", "b"}, {"", ""}, {"cc", "dd", "ee"}, nil}, length); got != nil {
		t.Errorf("Alike = %q", got)
	}
	if got := checks.Alike([][]string{{"a"}, {"b", "cc"}}, length); len(got) != 2 {
		t.Errorf("Alike = %q", got)
	}
	if got := checks.Alike([][]string{{"a"}}, func(a, b string) int { return 1 }); len(got) != 1 {
		t.Errorf("Alike = %q", got)
	}
}

func TestOrder(t *testing.T) {
	if got := checks.Order([]string{"b", "a", "c", "a"}, strings.Compare); got != nil {
		t.Errorf("Order = %q", got)
	}
	for name, compare := range map[string]func(a, b string) int{
		"not turned": func(a, b string) int { return 1 },
		"goes round": func(a, b string) int { return (int(b[0])-int(a[0])+4)%3 - 1 },
		"only near": func(a, b string) int {
			if d := int(a[0]) - int(b[0]); d < -1 || d > 1 {
				return d / 2
			}
			return 0
		},
	} {
		if got := checks.Order([]string{"a", "b", "c"}, compare); got == nil {
			t.Errorf("Order takes one that is none: %s", name)
		}
	}
}

func TestSorts(t *testing.T) {
	want := []string{"a", "b", "c", "d", "e", "f", "g"}
	good := func(l []string) []string { return slices.Sorted(slices.Values(l)) }
	if got := checks.Sorts(want, good); got != nil {
		t.Errorf("Sorts = %q", got)
	}
	for name, sort := range map[string]func(l []string) []string{
		"nothing":  func(l []string) []string { return nil },
		"as it is": func(l []string) []string { return slices.Clone(l) },
		"turned":   func(l []string) []string { s := good(l); slices.Reverse(s); return s },
		"in place": func(l []string) []string { slices.Sort(l); return l },
		"changes": func(l []string) []string {
			s := good(l)
			clear(l)
			return s
		},
		"spare room": func(l []string) []string { s := good(l); _ = append(l, ""); return s },
		"hands out": func(l []string) []string {
			if slices.IsSorted(l) {
				return l
			}
			return good(l)
		},
		"of nothing": func(l []string) []string { return append(good(l), "x")[:max(1, len(l))] },
	} {
		if got := checks.Sorts(want, sort); got == nil {
			t.Errorf("Sorts takes one that is none: %s", name)
		}
	}
}

func TestStays(t *testing.T) {
	early, late := []string{"a", "A", "a "}, []string{"b", "b ", "B", "B "}
	form := func(s string) string { return strings.ToLower(strings.TrimSpace(s)) }
	good := func(l []string) []string {
		return slices.SortedStableFunc(slices.Values(l), func(a, b string) int { return strings.Compare(form(a), form(b)) })
	}
	if got := checks.Stays(early, late, good); got != nil {
		t.Errorf("Stays = %q", got)
	}
	for name, sort := range map[string]func(l []string) []string{
		"as it is":     func(l []string) []string { return slices.Clone(l) },
		"byte by byte": func(l []string) []string { return slices.Sorted(slices.Values(l)) },
		"loses one":    func(l []string) []string { return good(l)[1:] },
		"turned": func(l []string) []string {
			s := slices.Clone(l)
			slices.Reverse(s)
			return good(s)
		},
	} {
		if got := checks.Stays(early, late, sort); got == nil {
			t.Errorf("Stays takes one that doesn't: %s", name)
		}
	}
}
