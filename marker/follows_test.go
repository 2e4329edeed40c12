package marker_test

import (
	"math/rand"
	"slices"
	"strings"
	"testing"

	"dovetail/api"
	"dovetail/marker"
)

// anyMark is a fit marker, chosen by a fixed source, that is not of a kind.
func anyMark(source *rand.Rand, not, depth int) api.Mark {
	op := []int{api.MkOr, api.MkAnd, api.MkCmp}[source.Intn(3)]
	if op == not || depth == 0 || op == api.MkCmp {
		return comp(anySide(source), operators()[source.Intn(10)], anySide(source))
	}
	m := api.Mark{Op: op}
	for range 2 + source.Intn(2) {
		m.Subs = append(m.Subs, anyMark(source, op, depth-1))
	}
	return m
}

func anySide(source *rand.Rand) api.Side {
	if source.Intn(2) == 0 {
		return variable(variables()[source.Intn(12)])
	}
	return text([]string{"", "x", "'", `"`, "a b", " ", "1.0", "is os_name", "~", "and", "(x)"}[source.Intn(11)])
}

// P11.5
func TestThereAndBack(t *testing.T) {
	source := rand.New(rand.NewSource(11))
	back := 0
	for range 20000 {
		m := anyMark(source, 0, 5)
		if !marker.Fit(m) {
			continue
		}
		s := marker.Text(m)
		again, f := marker.Marker(s)
		if len(s) > 256 {
			if f != (api.Fault{Err: long, At: 256}) {
				t.Fatalf("Marker(%q): %v", s, f)
			}
			continue
		}
		if f != (api.Fault{}) || !same(again, m) {
			t.Fatalf("%+v is written %q, which is read as %+v, %v", m, s, again, f)
		}
		before, err := marker.Eval(m, all(), "x")
		if after, e := marker.Eval(again, all(), "x"); after != before || e != err || err != api.OK {
			t.Fatalf("Eval of %q and of what it is read as: %v, %v", s, before, after)
		}
		back++
	}
	if back < 5000 {
		t.Errorf("only %d markers", back)
	}
	for s, m := range fitMarkers() {
		if again, f := marker.Marker(marker.Text(m)); len(s) <= 256 && (f != (api.Fault{}) || !same(again, m)) {
			t.Errorf("%q is read as %+v, %v", s, again, f)
		}
	}
	// Both limits, of what has little text.
	one := comp(text(""), "<", text(""))
	nest := or(one, one)
	for range 8 {
		nest = or(one, and(one, nest))
	}
	if again, f := marker.Marker(marker.Text(nest)); f != (api.Fault{}) || !same(again, nest) {
		t.Errorf("%q is read as %+v, %v", marker.Text(nest), again, f)
	}
}

// P11.3: what is read is fit, and its text is read as the same, also where blanks, quotes and parentheses were others.
func TestReadIsFit(t *testing.T) {
	for _, s := range []string{"a;'x'<\"y\"", "a ; ((os_name in 'x' or(extra==\"'\")))and'\"'<'b'", "a;" + strings.Repeat("''<''or", 31) + "''<''", "a;((((((((''<''))))))))"} {
		q, f := marker.Parse(s)
		if f != (api.Fault{}) || !q.HasMark || !marker.Fit(q.Mark) {
			t.Fatalf("Parse(%q) = %+v, %v", s, q, f)
		}
		if again, g := marker.Parse("a;" + marker.Text(q.Mark)); g != (api.Fault{}) && g.Err != long || g.Err == api.OK && !sameReq(again, q) {
			t.Errorf("%q is read again as %+v, %v", s, again, g)
		}
	}
}

// Rules 0.5 and 0.8: what is handed in stays as it was, and its spare room plays no part.
func TestArgumentsStay(t *testing.T) {
	room := []api.Mark{is("a"), is("b"), {Op: 7}, is("c")}
	deeper := []api.Mark{or(room[:2]...), comp(variable("extra"), "==", text("A_B")), is("c"), {Op: 9}}
	env := append(set("os_name", "c", "os_name", "a"), set("extra", "z", "python_version", "3")...)
	for _, m := range []api.Mark{or(room[:2]...), and(deeper[:2]...), and(deeper[:3]...), or(room[:3]...), and(deeper...), room[0]} {
		kept, keptRoom, keptEnv := copied(m), copied(or(room...)), slices.Clone(env)
		fit, s := marker.Fit(m), marker.Text(m)
		got, err := marker.Eval(m, env[:2], "A_B")
		if fit != marker.Fit(kept) || s != marker.Text(kept) || !same(m, kept) || !same(or(room...), keptRoom) || !slices.Equal(env, keptEnv) {
			t.Errorf("%+v is now %+v, %v", kept, m, env)
		}
		if again, e := marker.Eval(kept, slices.Clone(env[:2]), "A_B"); again != got || e != err {
			t.Errorf("Eval(%q) = %v, %d, then %v, %d", s, got, err, again, e)
		}
	}
	if _, err := marker.Eval(comp(variable("python_version"), "<", text("")), env[:2], ""); err != api.ErrEnv {
		t.Errorf("what lies behind an environment's end counts: %d", err)
	}
}

// Rule 0.5: each answer is memory of its own, and so is each of its lists.
func TestAnswersAreNew(t *testing.T) {
	const s = "a[z,y,z] <1 ; (os_name=='a' or os_name=='b') and (os_name=='c' or os_name=='d' and (os_name=='a' or (os_name=='b')))"
	kept, f := marker.Parse(s)
	if f != (api.Fault{}) {
		t.Fatal(f)
	}
	var spoil func(m api.Mark)
	spoil = func(m api.Mark) {
		for _, sub := range m.Subs {
			spoil(sub)
		}
		_ = append(m.Subs, api.Mark{Op: 9})
		clear(m.Subs)
	}
	for i := range kept.Mark.Subs {
		q, _ := marker.Parse(s)
		_ = append(q.Extras, "spoilt")
		clear(q.Extras)
		before := copied(q.Mark)
		spoil(q.Mark.Subs[i])
		if other := 1 - i; !same(q.Mark.Subs[other], before.Subs[other]) {
			t.Errorf("lists of %q share memory: %+v", s, q)
		}
		if again, g := marker.Parse(s); g != f || !sameReq(again, kept) {
			t.Errorf("Parse(%q) is then %+v", s, again)
		}
	}
	env, _ := marker.Env("os_name=x\nsys_platform=y")
	clear(env[:cap(env)])
	if env, f := marker.Env("os_name=x\nsys_platform=y"); f != (api.Fault{}) || !slices.Equal(env, set("os_name", "x", "sys_platform", "y")) {
		t.Errorf("Env is then %q, %v", env, f)
	}
}
