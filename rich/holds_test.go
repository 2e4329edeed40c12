package rich_test

import (
	"math/rand"
	"slices"
	"strings"
	"testing"

	"dovetail/api"
	"dovetail/rich"
)

// provide is packages by their texts: ; between packages, , between what one provides.
func provide(s string) [][]api.Rich {
	var all [][]api.Rich
	for text := range strings.SplitSeq(s, ";") {
		var l []api.Rich
		for c := range strings.SplitSeq(text, ",") {
			if r, f := rich.Parse(c); f.Err == api.OK {
				l = append(l, r)
			}
		}
		all = append(all, l)
	}
	return all
}

// P13.5: dependencies of each kind, held against packages.
func TestHolds(t *testing.T) {
	for s, packages := range map[string]struct{ hold, fail []string }{
		"a":                        {[]string{"a", "a = 1", "b;a", "b,a", ";;a"}, []string{"", ";", "b", "b;c", "a(x)", "a >= 1"}},
		"a >= 2":                   {[]string{"a = 2", "a = 2-1", "a = 1,a = 3", "a = 1;a = 3", "a,a = 2", "a = 1:0"}, []string{"", "a", "a = 1", "b = 2", "a >= 2", "a > 2"}},
		"(a and b)":                {[]string{"a;b", "a,b", "b;a", "c;b,a"}, []string{"", "a", "b", "a;a"}},
		"(a and b and c)":          {[]string{"a;b;c", "c,b,a"}, []string{"", "a;b", "a;c", "b;c"}},
		"(a or b)":                 {[]string{"a", "b", "a;b"}, []string{"", "c"}},
		"(a or b or c)":            {[]string{"c", "b", "a"}, []string{"", "d"}},
		"(a if b)":                 {[]string{"", "a", "c", "a;b", "a,b"}, []string{"b", "b;c"}},
		"(a if b else c)":          {[]string{"a;b", "c", "a;c", "a;b;c"}, []string{"", "a", "b", "b;c"}},
		"(a unless b)":             {[]string{"a", "a;c"}, []string{"", "b", "a;b", "a,b", "c"}},
		"(a unless b else c)":      {[]string{"a", "a;c", "b;c", "a;b;c"}, []string{"", "b", "c", "a;b"}},
		"(a with b)":               {[]string{"a,b", "a;a,b", "c;b,a"}, []string{"", "a", "b", "a;b", "a;b;a"}},
		"(a with b with c)":        {[]string{"a,b,c", "a;b;c;c,b,a"}, []string{"a,b", "a,b;c", "a,b;b,c;a,c"}},
		"(a >= 1 with a < 2)":      {[]string{"a = 1.5", "a = 0,a = 3", "a = 0;a = 1"}, []string{"a", "a = 2", "a = 0;a = 3"}},
		"(a without b)":            {[]string{"a", "a;b", "a,b;a", "a;a,b", "b;a"}, []string{"", "b", "a,b", "a,b;b", "b,a;a,b"}},
		"(a >= 1 without a = 2)":   {[]string{"a = 1", "a = 3", "a = 2;a = 3"}, []string{"a", "a = 2", "a = 2,a = 3", "a = 0", "a = 2-1"}},
		"((a or b) and c)":         {[]string{"a;c", "b;c"}, []string{"c", "a", "a;b"}},
		"(a if (b and c) else d)":  {[]string{"d", "b;d", "c;d", "a;b;c"}, []string{"", "b", "b;c", "b;c;d", "a"}},
		"((a with b) or (c if d))": {[]string{"a,b", "", "c", "c;d", "a,b;d"}, []string{"d", "d;a;b"}},
		"((a if b) if c)":          {[]string{"", "b", "c", "a;b;c"}, []string{"b;c"}},
		"((a unless b) unless c)":  {[]string{"a"}, []string{"", "a;b", "a;c", "a;b;c", "b"}},
	} {
		r, f := rich.Parse(s)
		if f.Err != api.OK {
			t.Fatalf("%q: %v", s, f)
		}
		for _, p := range packages.hold {
			if !rich.Holds(r, provide(p)) {
				t.Errorf("%q does not hold with %q", s, p)
			}
		}
		for _, p := range packages.fail {
			if rich.Holds(r, provide(p)) {
				t.Errorf("%q holds with %q", s, p)
			}
		}
	}
}

// P13.5: no packages, and packages that provide nothing.
func TestHoldsOfNothing(t *testing.T) {
	a, b, c := is("a"), is("b"), is("c")
	for _, packages := range [][][]api.Rich{nil, {}, {nil}, {{}}, {nil, {}, nil}} {
		for _, r := range []api.Rich{a, has("a", "=", "1"), and(a, b), or(a, b), iff(a, b, c), unless(a, b), unless(a, b, c), with(a, b), without(a, b), or(a, and(b, c))} {
			if rich.Holds(r, packages) {
				t.Errorf("%s holds with nothing", rich.Text(r))
			}
		}
		for _, r := range []api.Rich{iff(a, b), and(iff(a, b), iff(b, c)), or(a, iff(a, b)), iff(a, b, iff(b, c)), unless(iff(a, b), c)} {
			if !rich.Holds(r, packages) {
				t.Errorf("%s does not hold with nothing", rich.Text(r))
			}
		}
	}
}

// notProvided is what fits nothing, though it looks like a or b.
func notProvided() []api.Rich {
	return []api.Rich{
		{}, {Name: "a"}, {Op: 8, Name: "a"}, {Op: api.RiOr, Name: "a"}, or(is("a"), is("b")), and(is("a"), is("b")), with(is("a"), is("b")), has("a", "<", "2"), has("a", "<=", "1"), has("a", ">=", "1"), has("a", ">", "0"), has("a", "==", "1"), has("a", "=", ""), has("a", "=", "1-"), has("a", "", "1"), has("a", "=", " 1"), is("a "), is("A"), {Op: api.RiCap, Name: "a", Subs: named("a")}, is(""), endless(),
	}
}

// P13.5: provided ones that are none.
func TestHoldsOfNone(t *testing.T) {
	a, b := is("a"), is("b")
	for _, none := range notProvided() {
		for _, r := range []api.Rich{a, has("a", "=", "1"), has("a", ">=", "0"), or(a, b), unless(a, b), without(a, b), with(a, a)} {
			if rich.Holds(r, [][]api.Rich{{none}, {none, none}}) {
				t.Errorf("%s holds with %+v", rich.Text(r), none.Op)
			}
		}
		if !rich.Holds(iff(b, a), [][]api.Rich{{none}}) || !rich.Holds(without(b, a), [][]api.Rich{{none, b, none}}) || !rich.Holds(with(a, b), [][]api.Rich{{none}, {b, none, a}}) {
			t.Errorf("%+v plays a part", none)
		}
	}
}

// meant is whether a dependency holds, by the chapter's words.
func meant(r api.Rich, packages [][]api.Rich) bool {
	fits := func(wanted api.Rich, l []api.Rich) bool {
		return slices.ContainsFunc(l, func(p api.Rich) bool { return rich.Overlaps(wanted, p) })
	}
	holds := func(i int) bool { return meant(r.Subs[i], packages) }
	all, some := true, false
	for i := range r.Subs {
		all, some = all && holds(i), some || holds(i)
	}
	switch r.Op {
	case api.RiCap:
		return fits(r, slices.Concat(packages...))
	case api.RiAnd:
		return all
	case api.RiOr:
		return some
	case api.RiIf:
		return (holds(0) || !holds(1)) && (len(r.Subs) < 3 || holds(1) || holds(2))
	case api.RiUnless:
		return holds(0) && !holds(1) || len(r.Subs) == 3 && holds(2) && holds(1)
	}
	for _, l := range packages {
		each := true
		for _, sub := range r.Subs {
			each = each && fits(sub, l)
		}
		if r.Op == api.RiWith && each || r.Op == api.RiWithout && fits(r.Subs[0], l) && !fits(r.Subs[1], l) {
			return true
		}
	}
	return false
}

// anyPackages is packages that provide what anyOf asks for, or something like it.
func anyPackages(source *rand.Rand) [][]api.Rich {
	pick := func(l ...string) string { return l[source.Intn(len(l))] }
	var packages [][]api.Rich
	for range source.Intn(4) {
		var l []api.Rich
		for range source.Intn(5) {
			name := pick("a", "b", "perl(X)", "or", "x=1")
			switch source.Intn(6) {
			case 0:
				l = append(l, notProvided()[source.Intn(len(notProvided()))])
			case 1, 2:
				l = append(l, is(name))
			default:
				l = append(l, has(name, "=", pick("0", "1", "2", "1:0", "1.0-1", "1~a-2", "1~a")))
			}
		}
		packages = append(packages, l)
	}
	return packages
}

// P13.5 by its words.
func TestHoldsEverywhere(t *testing.T) {
	source := rand.New(rand.NewSource(5))
	counts := map[[2]int]int{}
	for range 20000 {
		r := anyOf(source, source.Intn(4))
		if !rich.Fit(r) {
			continue
		}
		packages := anyPackages(source)
		want := meant(r, packages)
		if rich.Holds(r, packages) != want {
			t.Fatalf("%s with %+v holds: %v", rich.Text(r), packages, !want)
		}
		if want {
			counts[[2]int{r.Op, 1}]++
		} else {
			counts[[2]int{r.Op, 0}]++
		}
	}
	for op := 1; op < api.NumRis; op++ {
		if counts[[2]int{op, 0}] < 50 || counts[[2]int{op, 1}] < 50 {
			t.Errorf("too few of the kind %d: %v", op, counts)
		}
	}
}
