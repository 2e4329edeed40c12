package marker_test

import (
	"slices"
	"strings"
	"testing"

	"dovetail/api"
	"dovetail/checks"
	"dovetail/marker"
	"dovetail/pep"
	"dovetail/pyspec"
)

// set is an environment of names and values, in turn.
func set(l ...string) []api.Var {
	var env []api.Var
	for pair := range slices.Chunk(l, 2) {
		env = append(env, api.Var{Name: pair[0], Value: pair[1]})
	}
	return env
}

// all is an environment that has each variable but extra, each with a value of its own.
func all() []api.Var {
	var env []api.Var
	for _, v := range variables()[:11] {
		env = append(env, api.Var{Name: v, Value: "is " + v})
	}
	return env
}

// mustRead is what a text that is right is read as.
func mustRead(t *testing.T, s string) api.Mark {
	t.Helper()
	m, f := marker.Marker(s)
	if f != (api.Fault{}) {
		t.Fatalf("Marker(%q): %v", s, f)
	}
	return m
}

// holds checks what a marker's text comes to.
func holds(t *testing.T, s string, env []api.Var, extra string, want bool) {
	t.Helper()
	if got, err := marker.Eval(mustRead(t, s), env, extra); got != want || err != api.OK {
		t.Errorf("Eval(%q, %v, %q) = %v, %d", s, env, extra, got, err)
	}
}

// P11.4: each variable is its value in the environment.
func TestVariables(t *testing.T) {
	for i, v := range variables() {
		for j, w := range variables() {
			left, right := "is "+v, "is "+w
			if v == "extra" {
				left = "an extra"
			}
			if w == "extra" {
				right = "an extra"
			}
			holds(t, v+" == '"+left+"'", all(), "an extra", true)
			holds(t, "'"+right+"'=="+w, all(), "an extra", true)
			holds(t, v+" != "+w, all(), "an extra", i != j)
			holds(t, v+" < "+w, all(), "an extra", left < right)
		}
	}
}

// P11.4: a variable that the environment has not, wherever it stands, and whatever the rest comes to.
func TestMissing(t *testing.T) {
	for _, v := range variables() {
		for _, env := range [][]api.Var{nil, {}, set("extra", "x"), set("os_nam", "x", "foo", "y", "", "z")} {
			for _, s := range []string{"V<'x'", "'x'<V", "V==V", "'x' in V", "V not in 'x'", "''=='' or V<'x'", "''!='' and V<'x'", "V<'x' or ''==''", "''!='' and ('' == '' or ''<V)", "V<'x' and ''!=''", "extra=='' or V<extra", "''=='' or ''=='' and (''=='' or extra==V)"} {
				m := mustRead(t, strings.ReplaceAll(s, "V", v))
				got, err := marker.Eval(m, env, "")
				if want := v != "extra"; want && (err != api.ErrEnv || got) || !want && err != api.OK {
					t.Errorf("Eval(%q, %v) = %v, %d", marker.Text(m), env, got, err)
				}
				if _, err := marker.Eval(m, slices.DeleteFunc(all(), func(w api.Var) bool { return w.Name == v }), ""); (err == api.ErrEnv) != (v != "extra") {
					t.Errorf("Eval(%q) without %s: %d", marker.Text(m), v, err)
				}
				if _, err := marker.Eval(m, append(env, all()...), ""); err != api.OK {
					t.Errorf("Eval(%q) with all: %d", marker.Text(m), err)
				}
			}
		}
	}
}

// P11.4: the first of a name counts, also if its value is empty.
func TestFirstCounts(t *testing.T) {
	env := set("os_name", "x", "os_name", "y", "python_version", "", "python_version", "3", "os_name", "x")
	holds(t, "os_name == 'x'", env, "", true)
	holds(t, "os_name == 'y'", env, "", false)
	holds(t, "'' == python_version", env, "", true)
	holds(t, "python_version >= '3'", env, "", false)
	// The environment has no extra.
	holds(t, "extra == 'x'", set("extra", "x"), "y", false)
	holds(t, "extra == 'y'", set("extra", "x"), "y", true)
	holds(t, "extra == ''", set("extra", "x"), "", true)
	// A text is no variable, whatever it says.
	holds(t, "'extra' == 'extra' and 'os_name' == \"os_name\" and 'Extra' != 'extra'", nil, "y", true)
	holds(t, "'extra' == 'y' or 'x' == 'os_name'", set("os_name", "x"), "y", false)
	// Values are any.
	holds(t, "os_name == \"a'b\"", set("os_name", "a'b"), "", true)
	holds(t, "os_name != 'x' and os_name > 'x' and 'x' not in os_name", set("os_name", "\xff\x00\n'\""), "", true)
}

// P11.4: extra on either side and on both, as a name and as none.
func TestExtra(t *testing.T) {
	for _, c := range []struct {
		s, extra string
		want     bool
	}{
		{"extra == 'Doc'", "doc", true}, {"extra == 'doc'", "DOC", true}, {"'Doc' == extra", "dOC", true}, {"extra == 'a_b'", "A.-b", true}, {"'a.b' === extra", "a-B", true}, {"extra != 'a__b'", "a.b", false}, {"extra == 'ab'", "a-b", false}, {"extra == 'doc'", "", false}, {"extra == ''", "", true}, {"'' != extra", "", false}, {"extra != 'doc'", "docs", true},
		{"extra == 'a b'", "A B", false}, {"extra == 'A B'", "A B", true}, {"extra == '-A'", "-A", true}, {"extra == '-a'", "-A", false}, {"extra == 'A.'", "a.", false}, {"'A.' == extra", "A.", true}, {"extra == '-a-'", "a", false}, {"extra == 'a_'", "a-", false},
		{"extra == os_name", "posix", true}, {"os_name == extra", "POSIX", true}, {"extra == extra", "x y", true}, {"extra != extra", "X", false}, {"extra === extra", "", true}, {"extra == platform_release", "1-2-b", true}, {"extra == platform_system", "a b", false}, {"platform_system == extra", "A B", true}, {"platform_version == extra", "1-0", true},
		{"extra in 'foo,bar'", "foo", true}, {"extra in 'foo,bar'", "FOO", true}, {"extra in 'FOO,bar'", "FOO", false}, {"extra in 'Foo_Bar'", "o.b", true}, {"extra in 'Foo'", "F", true}, {"extra not in 'Foo'", "F", false}, {"'O.B' in extra", "foo_bar", true}, {"extra in 'x'", "", true}, {"extra not in 'a b'", "c", true}, {"'_' in extra", "a_b", false}, {"'-' in extra", "a_b", true}, {"extra in extra", "q", true},
		{"extra < 'B'", "a", true}, {"extra < 'B'", "c", false}, {"extra > 'B'", "A", false}, {"extra <= 'B'", "b", true}, {"extra >= 'B'", "b", true}, {"extra < 'b c'", "B", true}, {"extra < 'B c'", "b", false},
		// Never by versions.
		{"extra == '1.0'", "1", false}, {"extra == '1.0'", "1_0", true}, {"extra == '1.0.0'", "1.0", false}, {"extra < '10'", "9", false}, {"extra > '10'", "9", true}, {"'1.0' == extra", "1", false}, {"extra ~= '1.0'", "1.5", false}, {"extra ~= '1.0'", "1.0", false}, {"extra == '1.*'", "1.5", false}, {"extra == '1.*'", "1.*", true}, {"extra != '1.*'", "1.5", true}, {"python_version == extra", "3", false}, {"python_version <= extra", "3.10", false}, {"extra === '1.0A1'", "1.0a1", true}, {"extra >= '1.0+A'", "1.0+a", true}, {"extra == '1.0+A'", "1.0+a", false},
	} {
		holds(t, c.s, set("os_name", "Posix", "platform_release", "1.2_B", "platform_system", "A B", "platform_version", "1.0", "python_version", "3.9"), c.extra, c.want)
	}
}

// P11.4: what stands in what.
func TestIn(t *testing.T) {
	for _, c := range []struct {
		left, right string
		want        bool
	}{
		{"posix", "posix nt", true}, {"nt", "posix nt", true}, {"x n", "posix nt", true}, {"os", "posix", true}, {"posix", "os", false}, {"", "", true}, {"", "x", true}, {"x", "", false}, {"Posix", "posix", false}, {"3.9", "3.8 3.9", true}, {"3.90", "3.9", false}, {"1", "1.0", true}, {"1.0", "1", false}, {"x", "x", true},
	} {
		holds(t, "os_name in sys_platform", set("os_name", c.left, "sys_platform", c.right), "", c.want)
		holds(t, "os_name not in sys_platform", set("os_name", c.left, "sys_platform", c.right), "", !c.want)
		holds(t, "'"+c.left+"' in '"+c.right+"'", nil, "", c.want)
		holds(t, "'"+c.left+"' not  in '"+c.right+"'", nil, "", !c.want)
	}
}

// P11.4: each comparison with versions on both sides, with one on a side alone, with texts.
func TestVersionsAndTexts(t *testing.T) {
	for _, c := range []struct {
		left, right string
		// The comparisons that hold, of those by signs.
		want string
	}{
		// Versions.
		{"3.10", "3.8", "!= >= > ~="}, {"3.8", "3.10", "!= <= <"}, {"3.8", "3.8", "== === <= >= ~="}, {"3.8", "3.8.0", "== <= >= ~="}, {"3", "3.0", "== <= >= ~="}, {"3.0", "3", "== <= >="}, {"3.9", "3", "!= >= >"}, {"1.0a1", "1.0", "!= <="}, {"1.0", "1.0a1", "!= >= > ~="}, {"1.0.post1", "1.0", "!= >= ~="}, {"1.0+x", "1.0", "== <= >= ~="}, {"V1.0A1", "1.0a1", "== <= >= ~="}, {"1.0A1", "1.0a1", "== === <= >= ~="}, {"1!1", "2.0", "!= >= >"}, {"2.5", "2.4", "!= >= > ~="}, {"3.5", " 3.5 ", "== === <= >= ~="},
		// What only some comparisons make a specifier of.
		{"3.5", "3.*", "== >= >"}, {"4.5", "3.*", "!= >= >"}, {"3.5", "3.5.*", "== <= <"}, {"1.0+x", "1.0+x", "== === <= >="}, {"1.0", "1.0+x", "!= < <="}, {"1.0+y", "1.0+x", "!= > >="}, {"9", "x", "!= <= <"}, {"1.0", "X", "!= <= <"},
		// A comparison that is longer with what stands behind it: <=1, ===1, >=1.
		{"1", "=1", "!= == <= < >"}, {"2", "=1", "!= <= >"}, {"v1", "=1", "!= < > >="},
		// Texts, byte by byte.
		{"posix", "nt", "!= >= >"}, {"nt", "nt", "== === <= >="}, {"", "", "== === <= >="}, {"", "x", "!= <= <"}, {"x", "", "!= >= >"}, {"x", "1.0", "!= >= >"}, {"10x", "9", "!= <= <"}, {"10", "9x", "!= <= <"}, {"1", "", "!= >= >"}, {"", "1", "!= <= <"}, {"1.0.x", "1.0.x", "== === <= >="}, {"NT", "nt", "!= <= <"}, {" 1", "1", "!= <= <"}, {"1", "1,", "!= <= <"}, {"1", "1,<2", "!= <= <"}, {"2", "1,2", "!= >= >"}, {"1,2", "1,2", "== === <= >="}, {"5.4.0-42-generic", "5.4", "!= >= >"},
	} {
		for _, op := range operators()[:8] {
			want := slices.Contains(strings.Fields(c.want), op)
			holds(t, "os_name "+op+" sys_platform", set("os_name", c.left, "sys_platform", c.right), "", want)
			holds(t, "'"+c.left+"' "+op+" '"+c.right+"'", nil, "", want)
			holds(t, "'"+c.left+"' "+op+" sys_platform", set("sys_platform", c.right), "", want)
		}
	}
	// A specifier has at most 256 bytes, a version 64.
	blanks, noughts := strings.Repeat(" ", 252), strings.Repeat("0", 64)
	holds(t, "os_name == platform_version", set("os_name", "1", "platform_version", blanks[:251]+"1.0"), "", true)
	holds(t, "os_name == platform_version", set("os_name", "1", "platform_version", blanks+"1.0"), "", false)
	holds(t, "os_name == '0'", set("os_name", noughts), "", true)
	holds(t, "os_name == '0'", set("os_name", noughts+"0"), "", false)
	holds(t, "python_version < '3.8'", set("python_version", "3.10"), "", false)
}

// someTexts is versions, prefixes of them, and what is neither.
func someTexts() []string {
	return []string{"", " ", "x", "X", "X.y_z", "1", "1.0", "v1.0", "1.0a1", "1.0A1", "1.0.post1", "1.0+l", "1!1", "2", "10", "1.*", "=1", "==1.0", "1,2", "1,<2", " 1 ", "1.0x", "\x7f", "<", "~"}
}

// wantedCompare is the chapter's words on a comparison of two texts.
func wantedCompare(left, cmp, right string, withExtra bool) bool {
	order := strings.Compare(left, right)
	l, f := pyspec.Parse(cmp + right)
	switch {
	case cmp == "in" || cmp == "not in":
		return strings.Contains(right, left) == (cmp == "in")
	case !withExtra && f == (api.Fault{}) && len(l) == 1 && pep.Normal(left) != "":
		return pyspec.Holds(l[0], left)
	case cmp == "~=":
		return false
	case cmp == "!=":
		return order != 0
	}
	return order == 0 && strings.Contains(cmp, "=") || order < 0 && cmp[0] == '<' || order > 0 && cmp[0] == '>'
}

// P11.4 by its words.
func TestEvalEverywhere(t *testing.T) {
	normal := func(s string) string {
		if n, ok := wantedName(s); ok {
			return n
		}
		return s
	}
	for _, left := range someTexts() {
		for _, right := range someTexts() {
			for _, op := range operators() {
				env := set("os_name", left, "sys_platform", right)
				want := wantedCompare(left, op, right, false)
				withExtra := wantedCompare(normal(left), op, normal(right), true)
				for _, c := range []struct {
					m     api.Mark
					extra string
					want  bool
				}{
					{comp(variable("os_name"), op, variable("sys_platform")), left, want},
					{comp(variable("extra"), op, variable("sys_platform")), left, withExtra},
					{comp(variable("os_name"), op, variable("extra")), right, withExtra},
				} {
					if got, err := marker.Eval(c.m, env, c.extra); got != c.want || err != api.OK {
						t.Errorf("Eval(%q, %v, %q) = %v, %d", marker.Text(c.m), env, c.extra, got, err)
					}
				}
			}
		}
	}
}

// wantedHolds is what a marker comes to, by what its comparisons do.
func wantedHolds(m api.Mark, truth func(api.Mark) bool) bool {
	count := 0
	for _, sub := range m.Subs {
		if wantedHolds(sub, truth) {
			count++
		}
	}
	switch m.Op {
	case api.MkOr:
		return count > 0
	case api.MkAnd:
		return count == len(m.Subs)
	}
	return truth(m)
}

// joined is all fit kinds of two or three of some markers.
func joined(op int, of []api.Mark) []api.Mark {
	var l []api.Mark
	for _, subs := range checks.Lists(of, 3) {
		if m := (api.Mark{Op: op, Subs: subs}); marker.Fit(m) {
			l = append(l, m)
		}
	}
	return l
}

// P11.6: an and, an or is that of its parts.
func TestConnectives(t *testing.T) {
	yes, no := comp(text("x"), "==", variable("os_name")), comp(variable("os_name"), "!=", text("x"))
	env := set("os_name", "x")
	truth := func(m api.Mark) bool { return m.Cmp == "==" }
	first := []api.Mark{yes, no}
	ors, ands := joined(api.MkOr, first), joined(api.MkAnd, first)
	l := slices.Concat(ors, ands, joined(api.MkOr, append(ands, yes, no)), joined(api.MkAnd, append(ors, yes, no)))
	if len(l) < 1000 {
		t.Fatalf("only %d markers", len(l))
	}
	for _, m := range l {
		for _, whole := range []api.Mark{m, flat(api.MkOr, no, m), flat(api.MkAnd, yes, m)} {
			got, err := marker.Eval(whole, env, "")
			if got != wantedHolds(m, truth) || err != api.OK {
				t.Fatalf("Eval(%q) = %v, %d", marker.Text(whole), got, err)
			}
		}
	}
}

// flat is a kind of two markers, the second one's Subs in its place, if it is of that kind.
func flat(op int, a, b api.Mark) api.Mark {
	if b.Op == op {
		return api.Mark{Op: op, Subs: append([]api.Mark{a}, b.Subs...)}
	}
	return api.Mark{Op: op, Subs: []api.Mark{a, b}}
}

// P11.6: parentheses and blanks more change nothing.
func TestMoreBlanks(t *testing.T) {
	wider := strings.NewReplacer(" and ", "  and\t", " or ", "\tor  ", " == ", "  ==\t\t", " not in ", "\tnot \t in ", "(", "( ", ")", "\t)")
	for want, m := range fitMarkers() {
		// Within a text a blank more says something else.
		if len(want) > 200 || strings.Contains(want, `"(" in " or "`) {
			continue
		}
		before, err := marker.Eval(m, all(), "y")
		for _, s := range []string{"(" + want + ")", "((" + want + ") )", " " + want + "\t", "\t(\t" + want + " ) ", wider.Replace(want)} {
			again := mustRead(t, s)
			if after, e := marker.Eval(again, all(), "y"); !same(again, m) || after != before || e != err || err != api.OK {
				t.Errorf("%q and %q come to %v, %v", want, s, before, after)
			}
		}
	}
}
