package checks_test

import (
	"slices"
	"testing"

	"dovetail/checks"
)

func TestParts(t *testing.T) {
	a, b := checks.ByteOf("a"), checks.ByteOf("bB")
	var nested checks.Part
	nested = checks.Perhaps(checks.Row(a, checks.Later(&nested), b))
	for _, c := range []struct {
		name          string
		part          checks.Part
		whole, others []string
	}{
		{"Nothing", checks.Nothing, []string{""}, []string{"a"}},
		{"ByteOf", b, []string{"b", "B"}, []string{"", "a", "bB"}},
		{"ByteOf none", checks.ByteOf(""), nil, []string{"", "a"}},
		{"OneOf", checks.OneOf(a, b), []string{"a", "b"}, []string{"", "ab"}},
		{"OneOf none", checks.OneOf(), nil, []string{"", "a"}},
		{"Row", checks.Row(a, b, a), []string{"aba", "aBa"}, []string{"", "ab", "abaa", "bab"}},
		{"Row of none", checks.Row(), []string{""}, []string{"a"}},
		{"Literal", checks.Literal("abc"), []string{"abc"}, []string{"", "ab", "abcd", "acb"}},
		{"Perhaps", checks.Perhaps(a), []string{"", "a"}, []string{"b", "aa"}},
		{"Some", checks.Some(a), []string{"a", "aa", "aaaaa"}, []string{"", "b", "aab"}},
		{"Some of nothing", checks.Some(checks.Perhaps(a)), []string{"", "a", "aa"}, []string{"b", "ab"}},
		{"Some and one", checks.Row(checks.Some(a), a), []string{"aa", "aaa"}, []string{"", "a", "aab"}},
		{"Later", nested, []string{"", "ab", "aabB", "aaabbb"}, []string{"a", "b", "aab", "abb", "abab"}},
	} {
		for _, s := range c.whole {
			if !c.part.Whole(s) || !c.part.GoesOn(s) {
				t.Errorf("%s: %q is not whole", c.name, s)
			}
		}
		for _, s := range c.others {
			if c.part.Whole(s) {
				t.Errorf("%s: %q is whole", c.name, s)
			}
		}
	}
}

func TestWrong(t *testing.T) {
	part := checks.OneOf(checks.Literal("abc"), checks.Literal("ad"))
	for s, want := range map[string]int{"": 0, "x": 0, "a": 1, "ax": 1, "ab": 2, "abx": 2, "abd": 2} {
		if got := part.Wrong(s); got != want || part.GoesOn(s) != (want == len(s)) {
			t.Errorf("Wrong(%q) = %d", s, got)
		}
	}
	// Behind a whole one nothing is asked for.
	if !part.GoesOn("ad") || part.GoesOn("ad ") {
		t.Error("behind a whole one")
	}
}

func TestBytes(t *testing.T) {
	for want, got := range map[string]string{"abc": checks.Bytes('a', 'c', ""), "ac": checks.Bytes('a', 'c', "b"), "": checks.Bytes('a', 'a', "a"), "\xfe\xff": checks.Bytes(0xfe, 0xff, "\x00")} {
		if got != want {
			t.Errorf("Bytes = %q, not %q", got, want)
		}
	}
}

func TestEdited(t *testing.T) {
	if got := checks.Edited("ab", "x"); !slices.Equal(got, []string{"xab", "xb", "b", "", "axb", "ax", "a", "a", "abx"}) {
		t.Errorf("Edited = %q", got)
	}
	if got := checks.Edited("", "xy"); !slices.Equal(got, []string{"x", "y"}) {
		t.Errorf("Edited = %q", got)
	}
}
