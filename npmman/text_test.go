package npmman_test

import (
	"slices"
	"strconv"
	"strings"
	"testing"

	"dovetail/api"
	"dovetail/npmman"
)

// says checks how universes are written.
func says(t *testing.T, wanted map[string]api.Universe) {
	t.Helper()
	for want, u := range wanted {
		if got := npmman.Text(u); got != want {
			t.Errorf("Text(%s) = %.300q, not %.300q", brief(u), got, want)
		}
	}
}

// unsaid checks that universes are not written.
func unsaid(t *testing.T, l ...api.Universe) {
	t.Helper()
	for _, u := range l {
		if s := npmman.Text(u); s != "" {
			t.Errorf("Text(%s) = %.300q", brief(u), s)
		}
	}
}

// P17.2: universes that some text is read as.
func TestText(t *testing.T) {
	all := []api.Dep{needs(1, "c 1"), needs(1, "b 2"), peer(1, "a 3"), peer(1, "b *"), optional(1, "b >=1 <2"), optional(1, "@a/b ")}
	written := `{"packages":[{"name":"a","version":"1.0.0-a+b","dependencies":{"c":"1","b":"2"},"peerDependencies":{"a":"3","b":"*"},"optionalDependencies":{"b":">=1 <2","@a/b":""}}]}`
	says(t, map[string]api.Universe{
		`{"packages":[]}`: universe(),
		`{"packages":[{"name":"a","version":"1.0.0"}]}`:                                                                  universe(pack(1, "a", "1.0.0")),
		`{"packages":[{"name":"b","version":"1.0.0"},{"name":"@a/a","version":"2.0.0"},{"name":"b","version":"1.0.0"}]}`: universe(pack(1, "b", "1.0.0"), pack(1, "@a/a", "2.0.0"), pack(1, "b", "1.0.0")),
		written: universe(pack(1, "a", "1.0.0-a+b", all...)),
		`{"packages":[{"name":"a","version":"1.0.0","optionalDependencies":{"b":"1"}}]}`:                                               universe(pack(1, "a", "1.0.0", optional(1, "b 1"))),
		`{"packages":[{"name":"a","version":"1.0.0","dependencies":{"b":"  1\u0009 \u0009","c":" "}},{"name":"b","version":"1.0.0"}]}`: universe(pack(1, "a", "1.0.0", needs(1, "b   1\t \t"), needs(1, "c  ")), pack(1, "b", "1.0.0")),
	})
	// Sections may stand in any order, each of their own requirements together.
	for _, turned := range [][]api.Dep{slices.Concat(all[2:4], all[:2], all[4:]), slices.Concat(all[4:], all[2:4], all[:2]), slices.Concat(all[4:], all[:2], all[2:4]), slices.Concat(all[:2], all[4:], all[2:4])} {
		says(t, map[string]api.Universe{written: universe(pack(1, "a", "1.0.0-a+b", turned...))})
	}
	// Lines play no part, nor does it matter whether a list that is empty is there.
	for _, line := range []int{0, -1, 7, 1 << 40, -1 << 62} {
		u := universe(pack(line, "a", "1.0.0-a+b", slices.Clone(all)...))
		for i := range u.Packages[0].Deps {
			u.Packages[0].Deps[i].Line = line - i
		}
		says(t, map[string]api.Universe{written: u})
	}
	p := api.Package{Name: "a", Version: "1.0.0", Deps: []api.Dep{}, Provides: []string{}, Extras: []string{}}
	says(t, map[string]api.Universe{
		`{"packages":[]}`: {Dialect: api.DiNpm, Packages: []api.Package{}}, `{"packages":[{"name":"a","version":"1.0.0"}]}`: universe(p),
	})
}

// P17.2: what no text is read as.
func TestUnsaid(t *testing.T) {
	good := pack(1, "a", "1.0.0", needs(1, "b 1"))
	for _, dialect := range []int{0, -1, api.DiPy, api.DiMaven, api.DiDeb, api.DiRpm, api.NumDis, 1 << 40} {
		unsaid(t, api.Universe{Dialect: dialect}, api.Universe{Dialect: dialect, Packages: []api.Package{good}})
	}
	with := func(change func(p *api.Package)) {
		t.Helper()
		p := pack(1, "a", "1.0.0", needs(1, "b 1"))
		change(&p)
		unsaid(t, universe(p), universe(good, p), universe(p, good))
	}
	for _, name := range append(badNames(), "\x00", "a\n", "a\"b", "\xff") {
		with(func(p *api.Package) { p.Name = name })
		if strings.HasSuffix(name, " ") {
			// Behind a name that is one the blank is a range's first byte.
			continue
		}
		for _, spec := range []string{"", "1", "!"} {
			with(func(p *api.Package) { p.Deps[0].Text = name + " " + spec })
			with(func(p *api.Package) { p.Deps = append(p.Deps, peer(1, name+" "+spec)) })
		}
	}
	for _, version := range []string{"", "1", "1.0.0 ", "v1.0.0", "01.0.0", "1.0.0-\xff", "1.0.0\n", strings.Repeat("1", 61) + ".0.0"} {
		with(func(p *api.Package) { p.Version = version })
	}
	for _, text := range []string{"", "b", "b1", "b\t1", "b\n1", "b!", "@a/b", "b !", "b 01", "b 1\n", "b  !", "b latest", "b " + strings.Repeat(" ", 257), "b 1|2", "b \xff", " b 1", "b\t 1"} {
		with(func(p *api.Package) { p.Deps[0].Text = text })
		with(func(p *api.Package) { p.Deps = append(p.Deps, needs(1, text)) })
	}
	for _, kind := range []int{0, -1, api.RqConflicts, api.RqBreaks, api.RqPre, api.RqObsoletes, api.RqSelf, api.NumRqs, 1 << 40} {
		with(func(p *api.Package) { p.Deps[0].Kind = kind })
		with(func(p *api.Package) { p.Deps = append(p.Deps, api.Dep{Kind: kind, Text: "c 1"}) })
	}
	for _, l := range [][]string{{""}, {"a"}, {"a", "b"}} {
		with(func(p *api.Package) { p.Provides = l })
		with(func(p *api.Package) { p.Extras = l })
	}
	// A name twice in a section, and a section twice.
	b, c, d := needs(1, "b 1"), peer(1, "c 1"), needs(1, "d 1")
	for _, deps := range [][]api.Dep{{b, b}, {b, needs(1, "b 2")}, {c, b, d, b}, {b, c, peer(2, "c 2")}, {b, c, d}, {c, b, peer(1, "d 1")}, {b, optional(1, "b 1"), d}, {b, c, optional(1, "b 1"), c}, {b, c, optional(1, "b 1"), d}} {
		with(func(p *api.Package) { p.Deps = deps })
	}
	says(t, map[string]api.Universe{
		`{"packages":[{"name":"a","version":"1.0.0","dependencies":{"b":"1","d":"1"},"peerDependencies":{"b":"1","d":"1"}}]}`: universe(pack(1, "a", "1.0.0", b, d, peer(1, "b 1"), peer(1, "d 1"))),
	})
	// Too many packages, too many requirements.
	one := slices.Repeat([]api.Package{good}, 65)
	if s := npmman.Text(universe(one[:64]...)); s != `{"packages":[`+strings.Repeat(`{"name":"a","version":"1.0.0","dependencies":{"b":"1"}},`, 63)+`{"name":"a","version":"1.0.0","dependencies":{"b":"1"}}]}` {
		t.Errorf("64 packages: %.200q", s)
	}
	unsaid(t, universe(one...))
	var deps []api.Dep
	for i := range 33 {
		deps = append(deps, api.Dep{Kind: 1 + i/11, Text: "n" + strconv.Itoa(i) + " 1"})
	}
	if s := npmman.Text(universe(pack(1, "a", "1.0.0", deps[:32]...))); strings.Count(s, `:"1"`) != 32 {
		t.Errorf("32 requirements: %.200q", s)
	}
	with(func(p *api.Package) { p.Deps = deps })
}

// filled is a universe of 256 requirements, over which so many blanks are spread.
func filled(blank string, count int) api.Universe {
	u := universe()
	for i := range 8 {
		p := pack(1, "a", "1.0.0")
		for k := range 32 {
			blanks := count / 256
			if 32*i+k < count%256 {
				blanks++
			}
			p.Deps = append(p.Deps, needs(1, "n"+strconv.Itoa(k)+" "+strings.Repeat(blank, blanks)))
		}
		u.Packages = append(u.Packages, p)
	}
	return u
}

// P17.2: 65536 bytes, and more.
func TestLongText(t *testing.T) {
	const most = 65536
	room := most - len(npmman.Text(filled(" ", 0)))
	for _, left := range []int{2, 1, 0} {
		u := filled(" ", room-left)
		s := npmman.Text(u)
		if again, f := npmman.Universe(s); len(s) != most-left || f != (api.Fault{}) || !same(again, u) {
			t.Errorf("%d bytes, not %d, are read with %v", len(s), most-left, f)
		}
	}
	unsaid(t, filled(" ", room+1), filled(" ", room+2), filled(" ", 255*256))
	// Of bytes 9 there are shorter texts than the one that is written.
	tabs := filled("\t", room/6)
	if s := npmman.Text(tabs); len(s) != most-room%6 || strings.Count(s, `\u0009`) != room/6 {
		t.Errorf("%d bytes", len(s))
	}
	tabs = filled("\t", room/6+1)
	shorter := strings.ReplaceAll(npmman.Text(filled(" ", room/6+1)), " ", `\t`)
	if u, f := npmman.Universe(shorter); f != (api.Fault{}) || !same(u, tabs) || len(shorter) > most/2 {
		t.Errorf("%d bytes are read with %v", len(shorter), f)
	}
	unsaid(t, tabs)
}
