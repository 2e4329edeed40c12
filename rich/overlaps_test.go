package rich_test

import (
	"strings"
	"testing"

	"dovetail/api"
	"dovetail/rich"
	"dovetail/rpm"
)

// P13.4: the chapter's examples, and ordinary ones.
func TestOverlaps(t *testing.T) {
	for _, c := range []struct {
		wanted, provided string
		want             bool
	}{
		{"foo >= 1.0", "foo = 1.0-2", true}, {"foo > 1.0", "foo = 1.0-2", false}, {"foo", "foo", true}, {"foo >= 1.0", "foo", false}, {"foo", "foo = 1", true}, {"foo", "bar", false}, {"foo = 1", "bar = 1", false}, {"foo = 1", "Foo = 1", false}, {"foo(x)", "foo(x)", true}, {"foo(x)", "foo", false},
		{"a = 1", "a = 1", true}, {"a = 1", "a = 1.0", false}, {"a = 1.05", "a = 1.5", true}, {"a = 1_0", "a = 1.0", true}, {"a < 1", "a = 1~rc", true}, {"a > 1", "a = 1^git", true}, {"a >= 2", "a = 10", true}, {"a < 2", "a = 10", false},
		// Epochs count ahead of all, and are 0 where there are none.
		{"a > 2", "a = 1:1", true}, {"a < 1:1", "a = 2", true}, {"a = 0:1", "a = 1", true}, {"a = 1", "a = 0:1", true}, {"a = 01:1", "a = 1:1", true}, {"a = 1:1", "a = 1", false}, {"a >= 1:0", "a = 9", false}, {"a <= 2:1-1", "a = 1:9-9", true},
		// Releases count where both have one.
		{"a = 1-1", "a = 1-1", true}, {"a = 1-1", "a = 1-2", false}, {"a = 1-1", "a = 1", true}, {"a = 1", "a = 1-1", true}, {"a > 1-1", "a = 1", false}, {"a >= 1-1", "a = 1", true}, {"a <= 1-1", "a = 1", true}, {"a < 1-1", "a = 1", false}, {"a > 1-1", "a = 1-2", true}, {"a < 1", "a = 1-1", false}, {"a <= 1", "a = 1-1", true}, {"a < 1-2", "a = 1-1", true}, {"a > 1-~", "a = 1-0", true}, {"a = 1-01", "a = 1-1", true}, {"a > 1-9", "a = 2", true}, {"a > 1-9", "a = 2-1", true}, {"a < 2-1", "a = 1-9", true}, {"a = 1:1-1", "a = 1:1", true}, {"a = 1-1", "a = 1:1-1", false},
	} {
		w, f := rich.Parse(c.wanted)
		p, g := rich.Parse(c.provided)
		if f.Err != api.OK || g.Err != api.OK || rich.Overlaps(w, p) != c.want {
			t.Errorf("Overlaps(%q, %q) is not %v", c.wanted, c.provided, c.want)
		}
	}
}

// evrs is EVRs with and without each part.
func evrs() []string {
	var l []string
	for _, epoch := range []string{"", "0:", "1:", "01:"} {
		for _, v := range []string{"1", "1.0", "1~a", "2"} {
			for _, release := range []string{"", "-1", "-1~x", "-2"} {
				l = append(l, epoch+v+release)
			}
		}
	}
	return l
}

// ordered is the order of two EVRs, where releases count only if both have one.
func ordered(a, b string) int {
	if !strings.Contains(a, "-") || !strings.Contains(b, "-") {
		a, _, _ = strings.Cut(a, "-")
		b, _, _ = strings.Cut(b, "-")
	}
	return rpm.Compare(a, b)
}

// P13.4 by its words.
func TestOverlapsEverywhere(t *testing.T) {
	for _, wanted := range evrs() {
		for _, provided := range evrs() {
			order := ordered(provided, wanted)
			for cmp, want := range map[string]bool{"<": order < 0, "<=": order <= 0, "=": order == 0, ">=": order >= 0, ">": order > 0} {
				if rich.Overlaps(has("a", cmp, wanted), has("a", "=", provided)) != want {
					t.Errorf("%q of a %s %q is not %v", provided, cmp, wanted, want)
				}
				if rich.Overlaps(has("a", cmp, wanted), has("b", "=", provided)) {
					t.Errorf("b = %q fits a %s %q", provided, cmp, wanted)
				}
				if rich.Overlaps(has("a", cmp, wanted), is("a")) {
					t.Errorf("a fits a %s %q", cmp, wanted)
				}
			}
			if !rich.Overlaps(is("a"), has("a", "=", provided)) || rich.Overlaps(is("b"), has("a", "=", provided)) {
				t.Errorf("a = %q of a name alone", provided)
			}
			// Nobody provides all versions that a comparison tells.
			for _, cmp := range []string{"<", "<=", ">=", ">"} {
				for _, w := range []api.Rich{is("a"), has("a", cmp, provided), has("a", "=", wanted)} {
					if rich.Overlaps(w, has("a", cmp, provided)) {
						t.Errorf("a %s %q fits %+v", cmp, provided, w)
					}
				}
			}
		}
	}
	if !rich.Overlaps(is("a"), is("a")) || rich.Overlaps(is("a"), is("b")) {
		t.Error("names alone")
	}
}

// P13.4: what is no fit capability, on either side.
func TestOverlapsOfNone(t *testing.T) {
	a := is("a")
	for _, r := range []api.Rich{
		or(a, a), and(a, is("b")), with(a, a), without(a, is("b")), iff(a, a), unless(a, is("b")),
		{Op: api.RiOr, Name: "a"}, {Name: "a"}, {Op: 8, Name: "a"}, {Op: api.RiCap, Name: "a", Subs: []api.Rich{a}}, has("a", "=", ""), has("a", "=", "-"), has("a", "", "1"), has("a", "==", "1"), has("a", " ", "1"), has("a", "=", "1 "), has("a", "=", strings.Repeat("1", 65)),
	} {
		for _, fit := range []api.Rich{a, has("a", "=", "1"), r} {
			if rich.Overlaps(fit, r) || rich.Overlaps(r, fit) {
				t.Errorf("%+v overlaps %+v", r, fit)
			}
		}
	}
	for _, name := range []string{"", " ", "a b", "(", ")", "=", "a(", strings.Repeat("a", 49)} {
		if rich.Overlaps(is(name), is(name)) || rich.Overlaps(has(name, "=", "1"), has(name, "=", "1")) {
			t.Errorf("%q overlaps itself", name)
		}
	}
}
