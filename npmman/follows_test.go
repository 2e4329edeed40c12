package npmman_test

import (
	"fmt"
	"math/rand"
	"slices"
	"strings"
	"testing"

	"dovetail/api"
	"dovetail/checks"
	"dovetail/npmman"
	"dovetail/npmspec"
	"dovetail/semver"
)

// anyName is a name, mostly one of few.
func anyName(source *rand.Rand) string {
	const first, later = "abz09-~", "az09-~._"
	if source.Intn(4) > 0 {
		return string(first[source.Intn(3)])
	}
	part := func(most int) string {
		b := []byte{first[source.Intn(len(first))]}
		for range source.Intn(most) {
			b = append(b, later[source.Intn(len(later))])
		}
		return string(b)
	}
	if source.Intn(2) == 0 {
		return part(48)
	}
	return "@" + part(23) + "/" + part(23)
}

func anyVersion(source *rand.Rand) string {
	return fmt.Sprintf("%d.%d.%d", source.Intn(3), source.Intn(30), source.Intn(3)) + []string{"", "", "-rc.1", "+x.01", "-0+-"}[source.Intn(5)]
}

func anySpec(source *rand.Rand) string {
	return []string{"", "1", "^1.2.3", " ~2\t", "1 || 2", ">=1 <2.0.0-0", "\t", "* ", "v1.x - 2"}[source.Intn(9)]
}

// anyDeps is requirements in any order of sections, some sections empty.
func anyDeps(source *rand.Rand) []api.Dep {
	var l []api.Dep
	for _, i := range source.Perm(3) {
		seen := map[string]bool{}
		for range source.Intn(12) / 2 {
			if name := anyName(source); !seen[name] {
				seen[name] = true
				l = append(l, api.Dep{Kind: 1 + i, Text: name + " " + anySpec(source)})
			}
		}
	}
	return l
}

// anyUniverse is a universe that some texts are read as.
func anyUniverse(source *rand.Rand) api.Universe {
	u := universe()
	for range source.Intn(4) {
		u.Packages = append(u.Packages, pack(0, anyName(source), anyVersion(source), anyDeps(source)...))
	}
	return u
}

// quoted is a string without bytes that must be told otherwise, but for 9.
func quoted(s string) string { return `"` + strings.ReplaceAll(s, "\t", `\u0009`) + `"` }

// written is a universe's text, by the chapter's words.
func written(u api.Universe) string {
	var all []string
	for _, p := range u.Packages {
		l := []string{`"name":` + quoted(p.Name), `"version":` + quoted(p.Version)}
		for i, key := range sectionKeys() {
			var deps []string
			for _, d := range p.Deps {
				if name, spec, _ := strings.Cut(d.Text, " "); d.Kind == i+1 {
					deps = append(deps, quoted(name)+":"+quoted(spec))
				}
			}
			if len(deps) > 0 {
				l = append(l, quoted(key)+":{"+strings.Join(deps, ",")+"}")
			}
		}
		all = append(all, "{"+strings.Join(l, ",")+"}")
	}
	return `{"packages":[` + strings.Join(all, ",") + "]}"
}

// byKind is a universe without lines, of which each package's requirements stand by their kinds.
func byKind(u api.Universe) api.Universe {
	u = checks.InLine(u, 0)
	for _, p := range u.Packages {
		slices.SortStableFunc(p.Deps, func(a, b api.Dep) int { return a.Kind - b.Kind })
	}
	return u
}

// speller writes a universe or a root in one of the many ways that say the same, and sets lines.
type speller struct {
	source *rand.Rand
	text   []byte
	line   int
}

func (w *speller) add(s string) {
	w.text = append(w.text, s...)
	w.line += strings.Count(s, "\n")
}

func (w *speller) blanks() {
	for range w.source.Intn(5) / 3 {
		w.add(string(" \t\r\n"[w.source.Intn(4)]))
	}
}

// sign writes a sign with blanks around it.
func (w *speller) sign(s string) {
	w.blanks()
	w.add(s)
	w.blanks()
}

func (w *speller) str(s string) {
	w.add(`"`)
	for i := range len(s) {
		switch pick := w.source.Intn(12); {
		case pick == 0:
			w.add(fmt.Sprintf([]string{`\u%04x`, `\u%04X`}[w.source.Intn(2)], s[i]))
		case pick == 1 && s[i] == '/':
			w.add(`\/`)
		case s[i] == '\t':
			w.add(`\t`)
		default:
			w.add(s[i : i+1])
		}
	}
	w.add(`"`)
}

func (w *speller) key(s string) {
	w.str(s)
	w.sign(":")
}

// section writes requirements of one kind, and sets their lines.
func (w *speller) section(deps []api.Dep) {
	w.add("{")
	w.blanks()
	for i := range deps {
		if i > 0 {
			w.sign(",")
		}
		name, spec, _ := strings.Cut(deps[i].Text, " ")
		w.key(name)
		deps[i].Line = w.line
		w.str(spec)
	}
	w.blanks()
	w.add("}")
}

// members writes some members of an object, those of a package in any order, and hands out its requirements as they stand.
func (w *speller) members(deps []api.Dep, others map[string]string) []api.Dep {
	var keys []string
	for _, key := range []string{"name", "version"} {
		if others[key] != "" {
			keys = append(keys, key)
		}
	}
	sections := map[string][]api.Dep{}
	for i, key := range sectionKeys() {
		for _, d := range deps {
			if d.Kind == i+1 {
				sections[key] = append(sections[key], d)
			}
		}
		if len(sections[key]) > 0 || w.source.Intn(3) == 0 {
			keys = append(keys, key)
		}
	}
	w.source.Shuffle(len(keys), func(i, k int) { keys[i], keys[k] = keys[k], keys[i] })
	var placed []api.Dep
	w.add("{")
	w.blanks()
	for i, key := range keys {
		if i > 0 {
			w.sign(",")
		}
		w.key(key)
		if s := others[key]; s != "" {
			w.str(s)
			continue
		}
		w.section(sections[key])
		placed = append(placed, sections[key]...)
	}
	w.blanks()
	w.add("}")
	return placed
}

func (w *speller) universe(u api.Universe) api.Universe {
	placed := universe()
	w.sign("{")
	w.key("packages")
	w.sign("[")
	for i, p := range u.Packages {
		if i > 0 {
			w.sign(",")
		}
		p.Line = w.line
		p.Deps = w.members(p.Deps, map[string]string{"name": p.Name, "version": p.Version})
		placed.Packages = append(placed.Packages, p)
	}
	w.sign("]")
	w.sign("}")
	return placed
}

// P17.1 to P17.4: there and back, in all ways that say the same.
func TestThereAndBack(t *testing.T) {
	source := rand.New(rand.NewSource(4))
	moved, big := 0, 0
	for range 10000 {
		u := anyUniverse(source)
		text := npmman.Text(u)
		if text != written(u) {
			t.Fatalf("Text(%s) = %q", brief(u), text)
		}
		again, f := npmman.Universe(text)
		if f != (api.Fault{}) || !same(byKind(again), byKind(u)) || !same(checks.InLine(again, 1), again) || npmman.Text(again) != text {
			t.Fatalf("%s is written %q, which is read as %s, %v", brief(u), text, brief(again), f)
		}
		w := &speller{source: source, line: 1}
		placed := w.universe(u)
		got, f := npmman.Universe(string(w.text))
		if f != (api.Fault{}) || !same(got, placed) || !same(byKind(got), byKind(u)) || npmman.Text(got) != text {
			t.Fatalf("Universe(%q) = %s, %v, not %s", w.text, brief(got), f, brief(placed))
		}
		if !same(checks.InLine(got, 1), checks.InLine(u, 1)) {
			moved++
		}
		root := &speller{source: source, line: 1}
		root.blanks()
		deps := root.members(anyDeps(source), nil)
		root.blanks()
		if l, f := npmman.Root(string(root.text)); f != (api.Fault{}) || !slices.Equal(l, deps) {
			t.Fatalf("Root(%q) = %s, %v, not %s", root.text, brief(l), f, brief(deps))
		}
		if len(deps) > 8 {
			big++
		}
	}
	if moved < 1000 || big < 500 {
		t.Errorf("%d stand in another order, %d are big", moved, big)
	}
}

// isRead tells by the chapter's words whether some text is read as a universe, but for its lines and the texts' length.
func isRead(u api.Universe) bool {
	w := newJudge("", false)
	for _, p := range u.Packages {
		seen := map[string]bool{}
		for i, d := range p.Deps {
			name, spec, found := strings.Cut(d.Text, " ")
			key := fmt.Sprint(d.Kind, name)
			if !found || !w.isName(name) || !npmspec.Valid(spec) || d.Kind < 1 || d.Kind > 3 || seen[key] {
				return false
			}
			seen[key] = true
			if slices.ContainsFunc(p.Deps[:i], func(e api.Dep) bool { return e.Kind == d.Kind }) && p.Deps[i-1].Kind != d.Kind {
				return false
			}
		}
		if !w.isName(p.Name) || semver.Canon(p.Version) == "" || len(p.Provides)+len(p.Extras) > 0 || len(p.Deps) > 32 {
			return false
		}
	}
	return u.Dialect == api.DiNpm && len(u.Packages) <= 64
}

// anyWild is a universe that no text is read as, now and then.
func anyWild(source *rand.Rand) api.Universe {
	u := anyUniverse(source)
	seldom := func() bool { return source.Intn(30) == 0 }
	if seldom() {
		u.Dialect = source.Intn(8)
	}
	for i := range u.Packages {
		p := &u.Packages[i]
		if seldom() {
			p.Name = badNames()[source.Intn(len(badNames()))]
		}
		if seldom() {
			p.Version += []string{" ", ".0", "-01", "\n"}[source.Intn(4)]
		}
		if seldom() {
			p.Provides = []string{"a"}
		}
		if seldom() {
			p.Extras = []string{"a"}
		}
		for k := range p.Deps {
			if seldom() {
				p.Deps[k].Kind = source.Intn(10)
			}
			if seldom() {
				p.Deps[k].Text = []string{"b", "b !", "", " ", "A 1", "c  1"}[source.Intn(6)]
			}
		}
		if len(p.Deps) > 0 && seldom() {
			p.Deps = append(p.Deps, p.Deps[0])
		}
		if seldom() {
			for k := range 40 {
				p.Deps = append(p.Deps, optional(k, fmt.Sprint("n", k, " ")))
			}
		}
		p.Line = source.Intn(9) - 4
	}
	return u
}

// P17.2 and P17.3, of any universes.
func TestByWords(t *testing.T) {
	source, said := rand.New(rand.NewSource(3)), 0
	for range 10000 {
		u := anyWild(source)
		want := ""
		if isRead(u) {
			want = written(u)
			said++
		}
		text := npmman.Text(u)
		if text != want {
			t.Fatalf("Text(%+v) = %q, not %q", u, text, want)
		}
		if again, f := npmman.Universe(text); want != "" && (f != (api.Fault{}) || !same(byKind(again), byKind(u))) {
			t.Fatalf("%q is read as %s, %v", text, brief(again), f)
		}
	}
	if said < 3000 || said > 8000 {
		t.Errorf("%d are said", said)
	}
}
