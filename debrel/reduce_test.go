package debrel_test

import (
	"math/rand"
	"slices"
	"strings"
	"testing"

	"dovetail/api"
	"dovetail/checks"
	"dovetail/deb"
	"dovetail/debrel"
)

// reduced checks what a relation's text is reduced to.
func reduced(t *testing.T, s, arch string, profiles []string, want string) {
	t.Helper()
	l, f := debrel.Parse(s)
	if f.Err != api.OK {
		t.Fatalf("Parse(%q): %v", s, f)
	}
	if got := debrel.Format(debrel.Reduce(l, arch, profiles)); got != want {
		t.Errorf("%q for %q, %q is %q, not %q", s, arch, profiles, got, want)
	}
}

// P12.4: architectures.
func TestReduceArchitectures(t *testing.T) {
	reduced(t, "libc6 (>= 2.14), aa | bb:any [!amd64 !i386] <!nocheck>", "amd64", nil, "libc6 (>= 2.14), aa")
	reduced(t, "libc6 (>= 2.14), aa | bb:any [!amd64 !i386] <!nocheck>", "arm64", nil, "libc6 (>= 2.14), aa | bb:any")
	everyArch := []string{"x", "y", "z", "xx", "any", "!x", ""}
	for terms, archs := range map[string][]string{
		"x": {"x"}, "x y": {"x", "y"}, "y x y": {"x", "y"}, "any": {"any"},
		"!x": {"y", "z", "xx", "any", "!x", ""}, "!x !y": {"z", "xx", "any", "!x", ""}, "!x !x": {"y", "z", "xx", "any", "!x", ""}, "!any": {"x", "y", "z", "xx", "!x", ""},
	} {
		for _, arch := range everyArch {
			want := ""
			if slices.Contains(archs, arch) {
				want = "aa:q (= 1)"
			}
			reduced(t, "aa:q (= 1) ["+terms+"]", arch, nil, want)
		}
	}
	reduced(t, "aa [x], bb [!x], cc", "x", nil, "aa, cc")
	reduced(t, "aa [x], bb [!x], cc", "y", nil, "bb, cc")
	reduced(t, "aa [x], bb [!x], cc", "", nil, "bb, cc")
	reduced(t, "aa [x] | bb [y] | cc [x y]", "y", nil, "bb | cc")
	reduced(t, "aa [x] | bb [x]", "y", nil, "")
	reduced(t, "aa [x] | bb [x], cc [y] | dd", "z", nil, "dd")
}

// P12.4: build profiles.
func TestReduceProfiles(t *testing.T) {
	for _, c := range []struct {
		rows     string
		profiles string
		left     bool
	}{
		{"<p>", "", false}, {"<p>", "p", true}, {"<p>", "q", false}, {"<p>", "q p", true}, {"<p>", "p p", true}, {"<p>", "pp", false},
		{"<!p>", "", true}, {"<!p>", "p", false}, {"<!p>", "q", true}, {"<!p>", "q p", false},
		{"<p q>", "p", false}, {"<p q>", "q", false}, {"<p q>", "p q", true}, {"<p q>", "", false},
		{"<p !q>", "p", true}, {"<p !q>", "p q", false}, {"<p !q>", "", false}, {"<p !q>", "q", false}, {"<p !q>", "p r", true},
		{"<!p !q>", "", true}, {"<!p !q>", "r", true}, {"<!p !q>", "p", false}, {"<!p !q>", "q", false},
		{"<p> <q>", "", false}, {"<p> <q>", "p", true}, {"<p> <q>", "q", true}, {"<p> <q>", "p q", true}, {"<p> <q>", "r", false},
		{"<!p> <q>", "p", false}, {"<!p> <q>", "p q", true}, {"<!p> <q>", "", true}, {"<p !p>", "p", false}, {"<p !p>", "", false}, {"<p !p> <!p>", "", true},
	} {
		want := ""
		if c.left {
			want = "aa:q (<< 1)"
		}
		profiles := strings.Fields(c.profiles)
		reduced(t, "aa:q (<< 1) "+c.rows, "x", profiles, want)
		reduced(t, "aa:q (<< 1) [x] "+c.rows, "x", profiles, want)
		reduced(t, "aa:q (<< 1) [!x] "+c.rows, "x", profiles, "")
		reduced(t, "aa:q (<< 1) [x] "+c.rows, "", profiles, "")
	}
}

// P12.4: lists that no text is read as.
func TestReduceOfNone(t *testing.T) {
	for _, c := range []struct {
		archs []api.DebTerm
		arch  string
		left  bool
	}{
		{terms("x", "!y"), "x", true}, {terms("x", "!y"), "y", false}, {terms("x", "!y"), "z", false}, {terms("!x", "x"), "x", true}, {terms("!x", "x"), "y", false}, {terms("!y", "x"), "x", true}, {terms("!x", "!y", "z"), "w", false}, {terms("!x", "!y", "z"), "z", true},
		{terms(""), "", true}, {terms("!"), "", false}, {terms(""), "x", false}, {terms("!"), "x", true}, {terms("x y"), "x", false}, {terms("x y"), "x y", true}, {[]api.DebTerm{{Name: "!x"}}, "!x", true}, {[]api.DebTerm{{Name: "!x"}}, "y", false}, {[]api.DebTerm{}, "x", true}, {nil, "", true},
	} {
		a := api.DebAlt{Name: "", Arch: "ARCH", Op: "~", Ver: "?", Archs: c.archs}
		var want [][]api.DebAlt
		if c.left {
			want = all(one(api.DebAlt{Name: "", Arch: "ARCH", Op: "~", Ver: "?"}))
		}
		if got := debrel.Reduce(all(one(a)), c.arch, nil); !same(got, want) {
			t.Errorf("Reduce(%+v, %q) = %+v", a, c.arch, got)
		}
	}
	for _, c := range []struct {
		profs    [][]api.DebTerm
		profiles []string
		left     bool
	}{
		{nil, nil, true}, {[][]api.DebTerm{}, nil, true}, {[][]api.DebTerm{nil}, nil, true}, {[][]api.DebTerm{nil}, []string{"p"}, true}, {[][]api.DebTerm{terms("p"), {}}, nil, true}, {[][]api.DebTerm{terms("")}, nil, false}, {[][]api.DebTerm{terms("")}, []string{""}, true}, {[][]api.DebTerm{terms("!")}, []string{""}, false}, {[][]api.DebTerm{{{Name: "!p"}}}, nil, false}, {[][]api.DebTerm{{{Name: "!p"}}}, []string{"!p"}, true},
	} {
		a := api.DebAlt{Name: "X", Profs: c.profs}
		if got := debrel.Reduce(all(one(a)), "", c.profiles); c.left && !same(got, all(named("X"))) || !c.left && len(got) > 0 {
			t.Errorf("Reduce(%+v, %q) = %+v", a, c.profiles, got)
		}
	}
	for _, l := range [][][]api.DebAlt{nil, {}, {nil}, {{}, nil}} {
		if got := debrel.Reduce(l, "x", []string{"p"}); len(got) > 0 {
			t.Errorf("Reduce(%+v) = %+v", l, got)
		}
	}
	if got := debrel.Reduce(all(nil, named("aa"), nil, named("bb", "bb"), nil), "x", nil); !same(got, all(named("aa"), named("bb", "bb"))) {
		t.Errorf("empty groups stay: %+v", got)
	}
}

// counts is P12.4's words of an alternative.
func counts(a api.DebAlt, arch string, profiles []string) bool {
	named, spared := false, 0
	for _, term := range a.Archs {
		named = named || !term.Not && term.Name == arch
		if term.Not && term.Name != arch {
			spared++
		}
	}
	built := len(a.Profs) == 0
	for _, row := range a.Profs {
		fails := 0
		for _, term := range row {
			if slices.Contains(profiles, term.Name) == term.Not {
				fails++
			}
		}
		built = built || fails == 0
	}
	return (named || spared == len(a.Archs)) && built
}

// P12.4 by its words, and P12.10.
func TestReduceEverywhere(t *testing.T) {
	source := rand.New(rand.NewSource(4))
	for range 5000 {
		l := anyRelation(source)
		if source.Intn(4) == 0 {
			l = append(l, nil)
			l[0], l[len(l)-1] = l[len(l)-1], l[0]
		}
		arch := []string{"", "x", "amd64", "y-z", "0", "other"}[source.Intn(6)]
		profiles := checks.Lists([]string{"x", "amd64", "0"}, 2)[source.Intn(13)]
		var want, bare [][]api.DebAlt
		for _, group := range l {
			var left, plain []api.DebAlt
			for _, a := range group {
				without := a
				without.Archs, without.Profs = nil, nil
				plain = append(plain, without)
				if counts(a, arch, profiles) {
					left = append(left, without)
				}
			}
			if len(left) > 0 {
				want = append(want, left)
			}
			if len(plain) > 0 {
				bare = append(bare, plain)
			}
		}
		got := debrel.Reduce(l, arch, profiles)
		if !same(got, want) {
			t.Fatalf("Reduce(%+v, %q, %q) = %+v, not %+v", l, arch, profiles, got, want)
		}
		if twice := debrel.Reduce(got, arch, profiles); !same(twice, got) {
			t.Fatalf("Reduce twice: %+v, then %+v", got, twice)
		}
		if same := same(debrel.Reduce(bare, arch, profiles), bare); !same {
			t.Fatalf("Reduce changes %+v", bare)
		}
		if at := rowOf(l, got); at < 0 {
			t.Fatalf("%+v is no part of %+v in order", got, l)
		}
	}
}

// rowOf is where the last of some groups stands as a part of others, in order; -1, if it doesn't.
func rowOf(l, parts [][]api.DebAlt) int {
	at := 0
	for _, part := range parts {
		for at < len(l) && !partOf(l[at], part) {
			at++
		}
		if at == len(l) {
			return -1
		}
		at++
	}
	return at
}

// partOf tells whether alternatives stand in a group, in order.
func partOf(group, part []api.DebAlt) bool {
	for _, a := range group {
		if len(part) > 0 && a.Name == part[0].Name && a.Arch == part[0].Arch && a.Op == part[0].Op && a.Ver == part[0].Ver {
			part = part[1:]
		}
	}
	return len(part) == 0
}

// P12.5 and P12.6: each operator, versions that are none, "" as version, operators that are none.
func TestHoldsAndProvided(t *testing.T) {
	versions := []string{"", "0", "1", "1.0", "1.00", "2", "1:0", "1~", "1-1", "x", "1_", "1:", " 1", "1 ", ")", strings.Repeat("1", 64), strings.Repeat("1", 65)}
	held := 0
	for _, op := range append(everyOperator(), "", "<", ">", "==", "!=", " ", "= ", "x") {
		for _, ver := range versions {
			for _, arch := range []string{"", "any", "?"} {
				a := api.DebAlt{Name: "aa", Arch: arch, Op: op, Ver: ver, Archs: terms("x"), Profs: [][]api.DebTerm{terms("p")}}
				for _, version := range versions {
					want := op == "" || deb.Holds(version, op, ver)
					if got := debrel.Holds(a, "aa", version); got != want {
						t.Errorf("Holds(%+v, %q) = %v", a, version, got)
					}
					if version == "" && op != "" {
						want = false
					}
					if got := debrel.Provided(a, "aa", version); got != want {
						t.Errorf("Provided(%+v, %q) = %v", a, version, got)
					}
					if want {
						held++
					}
					for _, name := range []string{"", "a", "aaa", "aA", "bb", "aa:any", "aa "} {
						if debrel.Holds(a, name, version) || debrel.Provided(a, name, version) {
							t.Errorf("%+v holds of %q %q", a, name, version)
						}
					}
				}
			}
		}
	}
	if held < 1000 {
		t.Errorf("only %d hold", held)
	}
	for _, c := range []struct {
		op, ver, version string
		want             bool
	}{
		{"<<", "2", "1", true}, {"<<", "2", "2", false}, {"<=", "2", "2", true}, {"<=", "2", "2.1", false}, {"=", "1.0", "1.00", true}, {"=", "1.0", "1", false}, {">=", "2", "2", true}, {">=", "2", "2~rc", false}, {">>", "2", "2-1", true}, {">>", "2", "2", false},
		{"", "", "", true}, {"", "", "x", true}, {"", "2", "1", true}, {"=", "", "", false}, {"=", "1", "", false}, {"<<", "1", "", false}, {">=", "x", "1", false}, {">=", "1", "x", false}, {"<", "2", "1", false}, {">", "1", "2", false}, {"==", "1", "1", false},
	} {
		a := api.DebAlt{Name: "aa", Op: c.op, Ver: c.ver}
		if debrel.Holds(a, "aa", c.version) != c.want || debrel.Provided(a, "aa", c.version) != c.want {
			t.Errorf("%+v of %q is not %v", a, c.version, c.want)
		}
	}
	// A name need be none.
	for _, name := range []string{"", "A", "a, b"} {
		if a := (api.DebAlt{Name: name}); !debrel.Holds(a, name, "1") || !debrel.Provided(a, name, "") || debrel.Holds(a, name+"x", "1") {
			t.Errorf("%+v does not hold of its name", a)
		}
	}
}

// P12.7
func TestNames(t *testing.T) {
	for s, want := range map[string]string{
		"": "", "bb": "bb", "bb, aa": "aa bb", "aa|aa,aa:x (= 1)|aa [y]": "aa", "cc|aa,bb|aa,cc": "aa bb cc", "aa, a+, a0, 10, 9a, 00": "00 10 9a a+ a0 aa", "a-|a.|a+,a-b": "a+ a- a-b a.", "zz,yy,xx,yy,zz,zz": "xx yy zz",
	} {
		l, f := debrel.Parse(s)
		if got := debrel.Names(l); f.Err != api.OK || !slices.Equal(got, strings.Fields(want)) {
			t.Errorf("Names(%q) = %q", s, got)
		}
	}
	for _, l := range [][][]api.DebAlt{nil, {}, {nil}, {nil, {}}} {
		if got := debrel.Names(l); len(got) > 0 {
			t.Errorf("Names(%+v) = %q", l, got)
		}
	}
	if got := debrel.Names(all(named("b", "", "A"), nil, named("\xff", "", "a, b", "a", "B"))); !slices.Equal(got, []string{"", "A", "B", "a", "a, b", "b", "\xff"}) {
		t.Errorf("Names = %q", got)
	}
}
