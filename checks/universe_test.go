package checks_test

import (
	"slices"
	"testing"

	"dovetail/api"
	"dovetail/checks"
)

func TestMarked(t *testing.T) {
	for s, want := range map[string]int{"§ab": 0, "a§b": 1, "ab§": 2, "ab": 2} {
		if got, at := checks.Marked(s); got != "ab" || at != want {
			t.Errorf("Marked(%q) = %q, %d", s, got, at)
		}
	}
}

func TestShare(t *testing.T) {
	a, b := make([]int, 4), make([]int, 2, 4)
	for i, c := range []struct {
		lists [][]int
		want  bool
	}{
		{nil, false}, {[][]int{a}, false}, {[][]int{a, b, nil, {}}, false}, {[][]int{a, a}, true}, {[][]int{a, b, a[3:]}, true}, {[][]int{a[:1:1], a[1:]}, false}, {[][]int{a[:1], a[1:]}, true}, {[][]int{a[:0:0], a}, false}, {[][]int{b, b[2:4]}, true}, {[][]int{slices.Clone(a), a}, false},
	} {
		if checks.Share(c.lists...) != c.want {
			t.Errorf("%d: %v", i, !c.want)
		}
	}
}

// one is a universe with something in each list.
func one() api.Universe {
	return api.Universe{Dialect: 3, Packages: []api.Package{
		{Name: "a", Version: "1", Line: 5, Deps: []api.Dep{{Kind: 1, Text: "b", Line: 6}, {Kind: 2, Text: "c", Line: 7}}, Provides: []string{"p"}, Extras: []string{"x", "y"}},
		{Name: "b", Version: "2", Line: 8},
	}}
}

func TestSameUniverse(t *testing.T) {
	u := one()
	u.Packages[1].Deps, u.Packages[1].Provides, u.Packages[1].Extras = []api.Dep{}, []string{}, []string{}
	if !checks.SameUniverse(u, one()) || !checks.SameUniverse(api.Universe{}, api.Universe{Packages: []api.Package{}}) {
		t.Error("empty lists are not the same as none")
	}
	for i, change := range []func(u *api.Universe){
		func(u *api.Universe) { u.Dialect++ },
		func(u *api.Universe) { u.Packages = u.Packages[:1] },
		func(u *api.Universe) { u.Packages[1].Name = "" },
		func(u *api.Universe) { u.Packages[1].Version = "" },
		func(u *api.Universe) { u.Packages[0].Line++ },
		func(u *api.Universe) { u.Packages[0].Deps[1].Kind++ },
		func(u *api.Universe) { u.Packages[0].Deps[1].Text = "" },
		func(u *api.Universe) { u.Packages[0].Deps[1].Line++ },
		func(u *api.Universe) { u.Packages[0].Deps = u.Packages[0].Deps[1:] },
		func(u *api.Universe) { u.Packages[0].Provides[0] = "" },
		func(u *api.Universe) { u.Packages[0].Provides = nil },
		func(u *api.Universe) { u.Packages[0].Extras[1] = "" },
		func(u *api.Universe) { u.Packages[0].Extras = nil },
		func(u *api.Universe) { slices.Reverse(u.Packages) },
	} {
		other := one()
		change(&other)
		if checks.SameUniverse(one(), other) {
			t.Errorf("change %d is not seen", i)
		}
	}
}

func TestMemoryOfUniverses(t *testing.T) {
	u := checks.Roomy(one())
	if !checks.SameUniverse(u, one()) || cap(u.Packages) < 4 || cap(u.Packages[1].Deps) < 2 || cap(u.Packages[0].Provides) < 3 || cap(u.Packages[1].Extras) < 2 {
		t.Errorf("Roomy = %+v", u)
	}
	kept := checks.Copied(u)
	if len(kept.Packages) != cap(u.Packages) || kept.Packages[2].Name != "spare" || kept.Packages[0].Deps[2].Text != "spare 1" || kept.Packages[1].Provides[0] != "spare" || kept.Packages[1].Extras[0] != "spare" || !checks.SameUniverse(kept, checks.Copied(u)) {
		t.Errorf("Copied = %+v", kept)
	}
	if checks.ShareUniverses(u, kept) || !checks.ShareUniverses(u, u) {
		t.Error("whether memory is shared")
	}
	for i, share := range []func(a, b *api.Package){
		func(a, b *api.Package) { a.Deps = b.Deps },
		func(a, b *api.Package) { a.Provides = b.Provides },
		func(a, b *api.Package) { a.Extras = b.Provides[:1] },
	} {
		v := checks.Roomy(one())
		share(&v.Packages[0], &v.Packages[1])
		if !checks.ShareUniverses(v) {
			t.Errorf("sharing %d is not seen", i)
		}
	}
	line := checks.InLine(u, 9)
	if p := line.Packages[0]; p.Line != 9 || p.Deps[1] != (api.Dep{Kind: 2, Text: "c", Line: 9}) || line.Packages[1].Line != 9 || !checks.SameUniverse(u, one()) {
		t.Errorf("InLine = %+v", line)
	}
	checks.Emptied(u)
	if p := checks.Copied(u).Packages[0]; p.Name != "" || checks.SameUniverse(checks.Copied(u), kept) {
		t.Errorf("Emptied leaves %+v", u)
	}
}
