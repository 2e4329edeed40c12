package rich_test

import (
	"math/rand"
	"slices"
	"strings"
	"testing"

	"dovetail/api"
	"dovetail/checks"
	"dovetail/rich"
)

// fitOnes is dependencies by their texts.
func fitOnes() map[string]api.Rich {
	a, b, c := is("a"), is("b"), is("c")
	most := strings.Repeat("a(<)", 12)
	m := map[string]api.Rich{
		"a":                     a,
		most:                    is(most),
		"a = 1":                 has("a", "=", "1"),
		"a >= 01:2-3":           has("a", ">=", "01:2-3"),
		"and < or":              has("and", "<", "or"),
		"(a and b)":             and(a, b),
		"(a or b or c)":         or(a, b, c),
		"(a with b < 1 with c)": with(a, has("b", "<", "1"), c),
		"(a without b)":         without(a, b),
		"(a if b)":              iff(a, b),
		"(a if b else c)":       iff(a, b, c),
		"(a unless b)":          unless(a, b),
		"(a unless b else c)":   unless(a, b, c),
		"((a or b) and (a with b) and (a without b))":         and(or(a, b), with(a, b), without(a, b)),
		"((a if b) unless (a unless b) else (b if c else a))": unless(iff(a, b), unless(a, b), iff(b, c, a)),
		"(x() or y(z()))":                          or(is("x()"), is("y(z())")),
		"(a" + strings.Repeat(" and a", 31) + ")":  and(slices.Repeat(named("a"), 32)...),
		"(a" + strings.Repeat(" with a", 31) + ")": with(slices.Repeat(named("a"), 32)...),
	}
	for _, first := range []bool{true, false} {
		for depth := range 9 {
			s, r := nested("a", depth, first)
			m[s] = r
		}
	}
	return m
}

// P13.2 and P13.3
func TestFit(t *testing.T) {
	for s, r := range fitOnes() {
		if !rich.Fit(r) || rich.Text(r) != s {
			t.Errorf("%+v: fit %v, written %q, not %q", r, rich.Fit(r), rich.Text(r), s)
		}
	}
	// Lists that are empty are the same as those that are not there.
	empty := api.Rich{Op: api.RiCap, Name: "a", Subs: []api.Rich{}}
	if !rich.Fit(empty) || rich.Text(empty) != "a" || !slices.EqualFunc(rich.Caps(empty), named("a"), same) {
		t.Errorf("%+v is not fit", empty)
	}
}

// unfit is dependencies that no text is read as.
func unfit() []api.Rich {
	a, b := is("a"), is("b")
	ab := []api.Rich{a, b}
	l := []api.Rich{
		{}, {Name: "a"}, {Op: 8, Name: "a"}, {Op: -1, Name: "a"}, {Op: 1 << 40}, {Op: -1 << 40, Subs: ab}, {Op: 8, Subs: ab}, {Subs: ab}, {Op: 9, Subs: named("a", "b", "c")},
		or(a, api.Rich{}), and(api.Rich{}, a), iff(a, api.Rich{Op: 8}), or(a, b, is("")), and(a, or(a)), or(a, and(b, or())), with(or(a, b), a), with(a, and(a, b)), with(a, with(a, b)), without(a, with(a, b)), without(without(a, b), a), with(a, b, or(a, b)),
		without(named("a", "b", "c")...), iff(named("a", "b", "c", "d")...), unless(named("a", "b", "c", "d")...), iff(slices.Repeat(named("a"), 32)...), without(slices.Repeat(named("a"), 32)...),
		and(slices.Repeat(named("a"), 33)...), or(slices.Repeat(named("a"), 33)...), with(slices.Repeat(named("a"), 33)...), or(slices.Repeat(named("a"), 1<<16)...), or(and(slices.Repeat(named("a"), 16)...), or(slices.Repeat(named("a"), 17)...)), and(slices.Repeat([]api.Rich{and()}, 1<<16)...),
	}
	for op := range api.NumRis + 1 {
		for _, subs := range [][]api.Rich{nil, {}, {a}, {or(a, b)}} {
			if op != api.RiCap {
				l = append(l, api.Rich{Op: op, Subs: subs})
			}
		}
		for _, r := range []api.Rich{{Name: "a"}, {Cmp: "="}, {Evr: "1"}, {Name: "a", Cmp: "=", Evr: "1"}, {Name: "and"}, {Cmp: "and"}} {
			r.Op, r.Subs = op, ab
			l = append(l, r, or(a, r))
		}
	}
	for _, name := range []string{
		"", " ", "a ", " a", "a b", "a\tb", "a\n", "a\x00", "\x1f", "\x7f", "a\x7f", "\x80", "a\xff", "\u00e9", "(", ")", "(a)", "a)", "a(", "a)(", "a(b", "a((b)", "a(b c)", "<a", "=a", ">a", "=", "<=", "a = 1", "a = 1 or b", "a or b", "(a or b)", "a) or (b", "a)and", strings.Repeat("a", 49), strings.Repeat("a", 47) + "()", strings.Repeat("a", 1<<18),
	} {
		l = append(l, is(name), has(name, "=", "1"), or(is(name), a), with(a, is(name)), iff(a, b, has(name, "<", "2")))
	}
	for _, cmp := range []string{"==", "=>", "=<", "<>", "!=", "~", "!", " ", "= ", " =", "= 1", "=\t", "or", "\x00", ")", "<=>", "< ="} {
		l = append(l, has("a", cmp, "1"), or(has("a", cmp, "1"), b))
	}
	for _, evr := range []string{
		"", " ", "1 ", " 1", "\t1", "-", "1-", "1:", ":1", "1:2:3", "1-2-3", "1!", "1)", "1()", "(1)", "1 or b", "1) or (b", "1 b", "1\n", "\xff", "1 = 1", strings.Repeat("1", 65),
	} {
		l = append(l, has("a", "=", evr), has("a", ">=", evr), or(has("a", "=", evr), b), without(a, has("a", "=", evr)))
	}
	l = append(l, has("a", "", "1"), has("a", "", " "), or(a, has("b", "", "1")), has("a", "=", ""), has("", "=", "1"), api.Rich{Op: api.RiCap, Cmp: "=", Evr: "1"}, api.Rich{Op: api.RiCap})
	for _, subs := range [][]api.Rich{{a}, {a, b}, {{}}, {{}, {}, {}}} {
		r := is("a")
		r.Subs = subs
		l = append(l, r, or(r, a))
	}
	for _, depth := range []int{9, 10, 20, 40, 100, 1 << 12} {
		for _, first := range []bool{true, false} {
			r := is("a")
			for range depth {
				if first {
					r = or(r, is("b"))
				} else {
					r = and(is("b"), r)
				}
			}
			l = append(l, r, or(a, r))
		}
	}
	return append(l, endless(), widening())
}

// endless is a dependency within itself.
func endless() api.Rich {
	subs := make([]api.Rich, 2)
	for i := range subs {
		subs[i] = and(subs...)
	}
	return or(subs...)
}

// widening is a dependency of few lists, in which more stand than could be gone over.
func widening() api.Rich {
	r := is("")
	for level := range 12 {
		r = api.Rich{Op: []int{api.RiOr, api.RiAnd, 0, 9}[level%4], Subs: slices.Repeat([]api.Rich{r}, 1000)}
	}
	return r
}

// P13.2 to P13.5: what can't be.
func TestUnfit(t *testing.T) {
	a := is("a")
	packages := [][]api.Rich{{a, has("a", "=", "1"), is("b")}, {is("c"), is("d"), is(""), is(" ")}}
	for i, r := range unfit() {
		if rich.Fit(r) || rich.Text(r) != "" || len(rich.Caps(r)) > 0 {
			t.Errorf("the unfit %d is fit: %q, %+v", i, rich.Text(r), rich.Caps(r))
		}
		if rich.Holds(r, packages) || rich.Holds(r, [][]api.Rich{{r}}) || rich.Holds(r, nil) {
			t.Errorf("the unfit %d holds", i)
		}
		if rich.Overlaps(r, r) || rich.Overlaps(r, a) || rich.Overlaps(a, r) {
			t.Errorf("the unfit %d overlaps", i)
		}
		if rich.Holds(a, [][]api.Rich{{r}}) || !rich.Holds(a, [][]api.Rich{{r, a}}) {
			t.Errorf("the unfit %d fits", i)
		}
	}
}

// ofLength is a dependency whose text has just so many bytes.
func ofLength(bytes int) api.Rich {
	l := named("a", "b")
	// Each operand more has 4 bytes and its name's.
	for left := bytes - len("(a or b)"); left > 0; {
		n := min(left-4, 48)
		if left-4-n > 0 && left-4-n < 5 {
			n -= 5
		}
		l = append(l, is(strings.Repeat("x", n)))
		left -= 4 + n
	}
	return or(l...)
}

// P13.2: texts of at most 256 bytes.
func TestFitLength(t *testing.T) {
	for bytes, want := range map[int]bool{200: true, 255: true, 256: true, 257: false, 258: false, 300: false} {
		r := ofLength(bytes)
		var names []string
		for _, sub := range r.Subs {
			names = append(names, sub.Name)
		}
		text := "(" + strings.Join(names, " or ") + ")"
		if len(text) != bytes {
			t.Fatalf("%d bytes, not %d", len(text), bytes)
		}
		if rich.Fit(r) != want || (rich.Text(r) == text) != want || (rich.Text(r) == "") == want || (len(rich.Caps(r)) > 0) != want || rich.Holds(r, [][]api.Rich{named("a")}) != want {
			t.Errorf("of %d bytes: fit %v, %q", bytes, rich.Fit(r), rich.Text(r))
		}
	}
}

// written is a text by the chapter's words, whatever it is read as.
func written(r api.Rich) string {
	if r.Op == api.RiCap {
		if r.Cmp == "" {
			return r.Name
		}
		return r.Name + " " + r.Cmp + " " + r.Evr
	}
	text := "("
	for i, sub := range r.Subs {
		if i > 1 && (r.Op == api.RiIf || r.Op == api.RiUnless) {
			text += " else "
		} else if i > 0 {
			text += " " + operators()[r.Op] + " "
		}
		text += written(sub)
	}
	return text + ")"
}

// anyOf is a dependency, chosen by a fixed source, that is fit, if its text is not too long.
func anyOf(source *rand.Rand, depth int) api.Rich {
	pick := func(l ...string) string { return l[source.Intn(len(l))] }
	op := 1 + source.Intn(7)
	if depth == 0 || op == api.RiCap {
		name := pick("a", "b", "perl(X)", "or", "x=1")
		if source.Intn(2) == 0 {
			return is(name)
		}
		return has(name, pick(comparisons()...), pick("1", "2", "1:0", "1.0-1", "1~a-2", "0:1"))
	}
	count, below := 2, depth-1
	switch op {
	case api.RiIf, api.RiUnless:
		count += source.Intn(2)
	case api.RiWith:
		count, below = count+source.Intn(2), 0
	case api.RiWithout:
		below = 0
	default:
		count += source.Intn(3)
	}
	r := api.Rich{Op: op}
	for range count {
		r.Subs = append(r.Subs, anyOf(source, below))
	}
	return r
}

// P13.2 by its words: Parse of its text, of at most 256 bytes, tells it; also of what is changed at random.
func TestFitEverywhere(t *testing.T) {
	source := rand.New(rand.NewSource(13))
	counts := map[bool]int{}
	for range 20000 {
		r := anyOf(source, source.Intn(4))
		if source.Intn(2) == 0 {
			spoilAt(source, &r)
		}
		text := written(r)
		read, f := rich.Parse(text)
		want := len(text) <= 256 && f == (api.Fault{}) && same(read, r)
		counts[want]++
		if rich.Fit(r) != want || want && rich.Text(r) != text || !want && rich.Text(r) != "" {
			t.Fatalf("%+v: fit %v, %q", r, rich.Fit(r), rich.Text(r))
		}
	}
	if counts[true] < 5000 || counts[false] < 2000 {
		t.Errorf("fit or not: %v", counts)
	}
}

// spoilAt changes something somewhere in a dependency.
func spoilAt(source *rand.Rand, r *api.Rich) {
	if len(r.Subs) > 0 && source.Intn(3) > 0 {
		spoilAt(source, &r.Subs[source.Intn(len(r.Subs))])
		return
	}
	switch source.Intn(6) {
	case 0:
		r.Op = source.Intn(9)
	case 1:
		r.Name = []string{"", "a b", "x", ")"}[source.Intn(4)]
	case 2:
		r.Cmp = []string{"", "=", "!"}[source.Intn(3)]
	case 3:
		r.Evr = []string{"", "1", "-"}[source.Intn(3)]
	case 4:
		r.Subs = append(r.Subs, is("z"))
	case 5:
		r.Subs = r.Subs[:max(0, len(r.Subs)-1)]
	}
}

// leaves is the capabilities of a dependency, from the left.
func leaves(r api.Rich) []api.Rich {
	if r.Op == api.RiCap {
		return []api.Rich{r}
	}
	var l []api.Rich
	for _, sub := range r.Subs {
		l = append(l, leaves(sub)...)
	}
	return l
}

// P13.3
func TestCaps(t *testing.T) {
	for s, want := range map[string][]api.Rich{
		"a":                             named("a"),
		"a >= 1":                        {has("a", ">=", "1")},
		"(b or a)":                      named("b", "a"),
		"(a and a and a)":               named("a", "a", "a"),
		"((c or b = 1) if a else d(x))": {is("c"), has("b", "=", "1"), is("a"), is("d(x)")},
		"(a unless (b with c < 2) else (d without e(x)))": {is("a"), is("b"), has("c", "<", "2"), is("d"), is("e(x)")},
		"(a with b = 1 with c)":                           {is("a"), has("b", "=", "1"), is("c")},
		"((a or (b or (c or d))) and ((e and f) and g))":  named("a", "b", "c", "d", "e", "f", "g"),
	} {
		r, f := rich.Parse(s)
		if got := rich.Caps(r); f != (api.Fault{}) || !slices.EqualFunc(got, want, same) {
			t.Errorf("Caps(%q) = %+v", s, got)
		}
	}
	for s, r := range fitOnes() {
		if got := rich.Caps(r); !slices.EqualFunc(got, leaves(r), same) {
			t.Errorf("Caps of %q = %+v", s, got)
		}
	}
}

// P13.2, of each field alone.
func TestFitFields(t *testing.T) {
	subs := checks.Lists([]api.Rich{is("a"), or(is("a"), is("b")), {}}, 3)
	for op := range api.NumRis + 1 {
		for _, name := range []string{"", "a"} {
			for _, cmp := range []string{"", "=", "=="} {
				for _, evr := range []string{"", "1", "-"} {
					for _, l := range subs {
						r := api.Rich{Op: op, Name: name, Cmp: cmp, Evr: evr, Subs: l}
						caps, fits := 0, 0
						for _, sub := range l {
							if sub.Op == api.RiCap {
								caps++
							}
							if sub.Op != 0 {
								fits++
							}
						}
						bare := name == "" && cmp == "" && evr == "" && fits == len(l)
						want := false
						switch op {
						case api.RiCap:
							want = name == "a" && len(l) == 0 && (cmp == "" && evr == "" || cmp == "=" && evr == "1")
						case api.RiAnd, api.RiOr:
							want = bare && len(l) >= 2
						case api.RiIf, api.RiUnless:
							want = bare && (len(l) == 2 || len(l) == 3)
						case api.RiWith:
							want = bare && len(l) >= 2 && caps == len(l)
						case api.RiWithout:
							want = bare && len(l) == 2 && caps == 2
						}
						if rich.Fit(r) != want || (rich.Text(r) != "") != want {
							t.Errorf("Fit(%+v) = %v", r, !want)
						}
					}
				}
			}
		}
	}
}
