package marker_test

import (
	"slices"
	"strings"
	"testing"

	"dovetail/api"
	"dovetail/checks"
	"dovetail/marker"
)

// nested is a marker in which MkOr stands within MkAnd so many times in one another.
func nested(times int) api.Mark {
	m := and(is("a"), is("b"))
	for range times {
		m = and(is("c"), or(m, is("d")))
	}
	return m
}

// many is a kind of so many comparisons.
func many(op, count int) api.Mark {
	return api.Mark{Op: op, Subs: slices.Repeat([]api.Mark{is("x")}, count)}
}

// fitMarkers is markers with their texts.
func fitMarkers() map[string]api.Mark {
	a, b, c := is("a"), is("b"), is("c")
	m := map[string]api.Mark{
		`os_name == "a"`:                                                                               a,
		`os_name == "a" and os_name == "b"`:                                                            and(a, b),
		`os_name == "a" or os_name == "b"`:                                                             or(a, b),
		`os_name == "a" and os_name == "b" and os_name == "c"`:                                         and(a, b, c),
		`os_name == "a" or os_name == "b" or os_name == "a"`:                                           or(a, b, a),
		`os_name == "a" and os_name == "b" or os_name == "c"`:                                          or(and(a, b), c),
		`os_name == "a" and (os_name == "b" or os_name == "c")`:                                        and(a, or(b, c)),
		`(os_name == "a" or os_name == "b") and (os_name == "c" or extra in "y")`:                      and(or(a, b), or(c, comp(variable("extra"), "in", text("y")))),
		`(os_name == "a" or os_name == "b" and (os_name == "c" or os_name == "a")) and os_name == "b"`: and(or(a, and(b, or(c, a))), b),
		`"" not in os_name`:    comp(text(""), "not in", variable("os_name")),
		`"it's" < 'a "b"'`:     comp(text("it's"), "<", text(`a "b"`)),
		`" ~" === "\"`:         comp(text(" ~"), "===", text(`\`)),
		`'"' ~= "'"`:           comp(text(`"`), "~=", text("'")),
		`extra == extra`:       comp(variable("extra"), "==", variable("extra")),
		`"extra" == "os_name"`: comp(text("extra"), "==", text("os_name")),
		`"(" in " or "`:        comp(text("("), "in", text(" or ")),
		`"` + strings.Repeat("x", 1000) + `" < ""`: comp(text(strings.Repeat("x", 1000)), "<", text("")),
	}
	for _, op := range operators() {
		m[`python_version `+op+` "3"`] = comp(variable("python_version"), op, text("3"))
		for _, v := range variables() {
			m[`"x" `+op+` `+v] = comp(text("x"), op, variable(v))
		}
	}
	return m
}

// P11.3: Fit and Text of what can be.
func TestFit(t *testing.T) {
	for want, m := range fitMarkers() {
		if got := marker.Text(m); !marker.Fit(m) || got != want {
			t.Errorf("Text(%+v) = %q, not %q", m, got, want)
		}
	}
	for _, op := range []int{api.MkOr, api.MkAnd} {
		for _, count := range []int{2, 31, 32} {
			between := map[int]string{api.MkOr: " or ", api.MkAnd: " and "}[op]
			want := strings.Join(slices.Repeat([]string{`os_name == "x"`}, count), between)
			if m := many(op, count); !marker.Fit(m) || marker.Text(m) != want {
				t.Errorf("%d comparisons of %d: %q", count, op, marker.Text(m))
			}
		}
	}
	for times := range 9 {
		m := nested(times)
		want := strings.Repeat(`os_name == "c" and (`, times) + `os_name == "a" and os_name == "b"` + strings.Repeat(` or os_name == "d")`, times)
		if !marker.Fit(m) || marker.Text(m) != want {
			t.Errorf("%d times in one another: %q", times, marker.Text(m))
		}
		if top := or(is("e"), m); !marker.Fit(top) || marker.Text(top) != `os_name == "e" or `+want {
			t.Errorf("%d times in one another, below MkOr: %q", times, marker.Text(top))
		}
	}
	// As deep, or as many, as can be, next to one another.
	if wide := or(nested(8), nested(2), is("y")); !marker.Fit(wide) {
		t.Error("two kinds that are nested, next to one another")
	}
	if full := and(many(api.MkOr, 16), many(api.MkOr, 16)); !marker.Fit(full) {
		t.Error("16 comparisons twice")
	}
}

// unfit is markers that no text is read as.
func unfit() []api.Mark {
	a, b := is("a"), is("b")
	l := []api.Mark{
		{}, {Op: 4}, {Op: -1}, {Op: 1 << 40}, {Op: 4, Subs: []api.Mark{a, b}}, {Subs: []api.Mark{a, b}}, {Op: 4, Left: a.Left, Cmp: a.Cmp, Right: a.Right}, {Left: a.Left, Cmp: a.Cmp, Right: a.Right},
		or(), and(), or(a), and(a), or(and(a, b)), and(or(a, b)), {Op: api.MkOr, Subs: []api.Mark{}},
		or(or(a, b), a), or(a, or(a, b)), and(and(a, b), a), and(a, b, and(a, b)), or(a, and(b, and(a, b))), and(a, or(b, or(a, b))),
		or(a, api.Mark{}), and(api.Mark{}, a), or(a, api.Mark{Op: 9}), and(a, or(a)), or(a, and(b, or(a, and()))), or(a, b, is("\x7f")),
		or(slices.Repeat([]api.Mark{or()}, 1<<12)...),
		many(api.MkOr, 33), many(api.MkAnd, 33), many(api.MkOr, 1<<16), and(many(api.MkOr, 16), many(api.MkOr, 17)), or(many(api.MkAnd, 32), a), and(a, many(api.MkOr, 32)),
		nested(9), nested(10), or(a, nested(9)), and(b, or(nested(8), a)), nested(15), nested(1 << 15),
	}
	for _, cmp := range []string{"", "=", "!", "~", "<>", "=<", "====", "IN", "is", "not", "notin", "not  in", "not\tin", " in", "in ", "< ", " <", "and", "or", "\x00"} {
		l = append(l, comp(variable("os_name"), cmp, text("x")))
	}
	for _, side := range []api.Side{
		variable(""), variable("foo"), variable("os_nam"), variable("os_name "), variable("OS_NAME"), variable("'x'"), variable("in"),
		text(`'"`), text(`a"b'c`), text(`''""`), text("\x1f"), text("a\x1f"), text("\x7f"), text("~\x7f~"), text("\x00"), text("\t"), text("\n"), text("a\rb"), text("\x80"), text("\xff"), text("\u00e9"),
	} {
		l = append(l, comp(side, "<", text("x")), comp(text("x"), "in", side), comp(variable("extra"), "==", side), or(a, comp(side, "<", side)))
	}
	for _, op := range []int{api.MkOr, api.MkAnd} {
		for _, m := range []api.Mark{{Cmp: "<"}, {Left: text("x")}, {Right: text("x")}, {Left: api.Side{Var: true}}, {Right: api.Side{Var: true}}, {Left: variable("os_name")}, {Right: variable("os_name")}, a} {
			m.Op, m.Subs = op, []api.Mark{a, b}
			l = append(l, m)
		}
	}
	for _, subs := range [][]api.Mark{{a}, {a, b}, {{}}, {{}, {}, {}}} {
		m := is("x")
		m.Subs = subs
		l = append(l, m, or(m, a))
	}
	return append(l, endless(), widening())
}

// endless is a marker within itself.
func endless() api.Mark {
	ors, ands := make([]api.Mark, 2), make([]api.Mark, 2)
	for i := range 2 {
		ors[i], ands[i] = and(ands...), or(ors...)
	}
	return or(ors...)
}

// widening is a marker of few lists, in which more markers stand than could be gone over.
func widening() api.Mark {
	m := is("x")
	for level := range 12 {
		m = api.Mark{Op: []int{api.MkOr, api.MkAnd}[level%2], Subs: slices.Repeat([]api.Mark{m}, 1000)}
	}
	return m
}

// P11.3 and P11.4: what can't be.
func TestUnfit(t *testing.T) {
	env := []api.Var{{Name: "os_name", Value: "a"}, {Name: "foo", Value: "a"}}
	for i, m := range unfit() {
		if s := marker.Text(m); marker.Fit(m) || s != "" {
			t.Errorf("the unfit marker %d is fit, its text %q", i, s)
		}
		for _, e := range [][]api.Var{nil, env} {
			if holds, err := marker.Eval(m, e, "x"); holds || err != api.ErrMarker {
				t.Errorf("Eval of the unfit marker %d = %v, %d", i, holds, err)
			}
		}
	}
}

// P11.3 by its words, of each field alone.
func TestFitEverywhere(t *testing.T) {
	sides := []api.Side{{}, variable(""), variable("os_name"), variable("foo"), text("x"), text(`'`), text(`"`), text(`'"`), text("\x1f")}
	fitSides := []bool{true, false, true, false, true, true, true, false, false}
	for i, left := range sides {
		for j, right := range sides {
			for _, cmp := range []string{"", "<", "not in", "not"} {
				for _, subs := range checks.Lists([]api.Mark{is("a"), and(is("a"), is("b")), or(is("a"), is("b")), {}}, 2) {
					for op := range 5 {
						m := api.Mark{Op: op, Subs: subs, Left: left, Cmp: cmp, Right: right}
						want := false
						switch op {
						case api.MkOr, api.MkAnd:
							want = len(subs) == 2 && left == text("") && right == text("") && cmp == ""
							for _, sub := range subs {
								want = want && sub.Op != op && sub.Op != 0
							}
						case api.MkCmp:
							want = len(subs) == 0 && fitSides[i] && fitSides[j] && (cmp == "<" || cmp == "not in")
						}
						if marker.Fit(m) != want || (marker.Text(m) != "") != want {
							t.Errorf("Fit(%+v) = %v", m, !want)
						}
					}
				}
			}
		}
	}
}
