package npmman_test

import (
	"math/rand"
	"regexp"
	"slices"
	"strconv"
	"strings"
	"testing"

	"dovetail/api"
	"dovetail/checks"
	"dovetail/json"
	"dovetail/npmman"
	"dovetail/npmspec"
	"dovetail/semver"
)

// judge tells by the chapter's words what is wrong with a text: it looks at every value, wherever it stands, by the keys that lead to it, and keeps the first fault. ("packages 3 dependencies b" leads to a requirement of the fourth package; of a root "dependencies b" does.)
type judge struct {
	text  string
	root  bool
	name  *regexp.Regexp
	count map[string]int
	wrong []api.Fault
	deps  map[string][]api.Dep
}

func newJudge(text string, root bool) *judge {
	const part = "[a-z0-9~-][a-z0-9._~-]*"
	return &judge{text: text, root: root, name: regexp.MustCompile("^(@" + part + "/)?" + part + "$"), count: map[string]int{}, deps: map[string][]api.Dep{}}
}

func (w *judge) isName(s string) bool { return len(s) <= 48 && w.name.MatchString(s) }

func (w *judge) line(at int) int { return len(strings.Split(w.text[:at], "\n")) }

func (w *judge) tell(err api.Errno, v api.Json) {
	w.wrong = append(w.wrong, api.Fault{Err: err, At: v.At})
}

// asked is which kind of value is asked for at a way, and which of the keys of an object must be there; 0, where nothing may stand.
func (w *judge) asked(way []string) (kind int, keys []string) {
	if w.root && len(way) > 0 {
		// What stands in a root stands in a package likewise, but for its name and version.
		way = slices.Concat([]string{"packages", "0"}, way)
		if way[2] == "name" || way[2] == "version" {
			return 0, nil
		}
	}
	inPackages := len(way) > 0 && way[0] == "packages"
	section := len(way) > 2 && slices.Contains(sectionKeys(), way[2])
	switch {
	case len(way) == 0 && w.root:
		return api.JsObject, nil
	case len(way) == 0:
		return api.JsObject, []string{"packages"}
	case len(way) == 1 && inPackages:
		return api.JsList, nil
	case len(way) == 2 && inPackages:
		return api.JsObject, []string{"name", "version"}
	case len(way) == 3 && inPackages && section:
		return api.JsObject, nil
	case len(way) == 3 && inPackages && (way[2] == "name" || way[2] == "version"), len(way) == 4 && inPackages && section:
		return api.JsString, nil
	}
	return 0, nil
}

// look goes over a value and all that stands in it.
func (w *judge) look(way []string, v api.Json) {
	kind, keys := w.asked(way)
	last := ""
	if len(way) > 0 {
		last = way[len(way)-1]
	}
	owner, isDep := w.owner(way)
	switch {
	case kind == 0:
		w.tell(api.ErrWord, v)
	case isDep && w.count[owner] >= 32, len(way) == 2 && !w.root && w.count["packages"] >= 64:
		w.tell(api.ErrFull, v)
	case isDep && !w.isName(last):
		w.tell(api.ErrName, v)
	case v.Kind != kind:
		w.tell(api.ErrType, v)
	case isDep && !npmspec.Valid(v.Text):
		w.tell(api.ErrSpec, v)
	case !isDep && kind == api.JsString && last == "name" && !w.isName(v.Text):
		w.tell(api.ErrName, v)
	case !isDep && kind == api.JsString && last == "version" && semver.Canon(v.Text) == "":
		w.tell(api.ErrVersion, v)
	}
	if isDep {
		w.count[owner]++
		section := slices.Index(sectionKeys(), way[len(way)-2])
		w.deps[owner] = append(w.deps[owner], api.Dep{Kind: section + 1, Text: last + " " + v.Text, Line: w.line(v.At)})
	}
	if len(way) == 2 && !w.root {
		w.count["packages"]++
	}
	for i, kid := range v.Kids {
		step := strconv.Itoa(i)
		if v.Kind == api.JsObject {
			step = v.Keys[i]
		}
		w.look(append(slices.Clone(way), step), kid)
	}
	for _, key := range keys {
		if !slices.Contains(v.Keys, key) {
			w.tell(api.ErrMiss, v)
		}
	}
}

// owner is whose requirement stands at a way, if one does.
func (w *judge) owner(way []string) (string, bool) {
	if w.root {
		return "root", len(way) == 2
	}
	if len(way) == 4 {
		return way[1], true
	}
	return "", false
}

// judged is the first fault of a text, or what it is read as: a root's requirements are those of a package of their own.
func judged(s string, root bool) (api.Universe, api.Fault) {
	j, f := json.Parse(s)
	if f.Err != api.OK {
		return api.Universe{}, f
	}
	w := newJudge(s, root)
	w.look(nil, j)
	if len(w.wrong) > 0 {
		return api.Universe{}, w.wrong[0]
	}
	if root {
		return universe(api.Package{Deps: w.deps["root"]}), api.Fault{}
	}
	u := universe()
	l, _ := json.Get(j, "packages")
	for i, kid := range l.Kids {
		name, _ := json.Get(kid, "name")
		version, _ := json.Get(kid, "version")
		u.Packages = append(u.Packages, pack(w.line(kid.At), name.Text, version.Text, w.deps[strconv.Itoa(i)]...))
	}
	return u, api.Fault{}
}

// holds checks what both calls tell of a text, and counts their faults.
func holds(t *testing.T, s string, kinds map[api.Errno]int) {
	t.Helper()
	u, f := npmman.Universe(s)
	if want, wrong := judged(s, false); f != wrong || !same(u, want) {
		t.Fatalf("Universe(%.500q) = %s, %v, not %s, %v", s, brief(u), f, brief(want), wrong)
	}
	l, g := npmman.Root(s)
	want, wrong := judged(s, true)
	if wrong.Err != api.OK {
		want = universe(api.Package{})
	}
	if g != wrong || !slices.Equal(l, want.Packages[0].Deps) {
		t.Fatalf("Root(%.500q) = %s, %v, not %s, %v", s, brief(l), g, brief(want), wrong)
	}
	kinds[f.Err]++
	kinds[g.Err]++
}

// enough checks that there were some of each kind of fault.
func enough(t *testing.T, kinds map[api.Errno]int, least int, errs ...api.Errno) {
	t.Helper()
	for _, err := range errs {
		if kinds[err] < least {
			t.Errorf("only %d of %v", kinds[err], err)
		}
	}
}

// samples is texts with all parts.
func samples() []string {
	return []string{
		`{"packages":[{"name":"a","version":"1.0.0","dependencies":{"b":"^2"}}]}`,
		"{\n \"packages\" : [ {\"version\":\"1.2.3-a+b\",\"peerDependencies\":{\"@a/b\":\"1 || 2\",\n\"c\":\"\"},\n\"name\":\"@x/y\",\"optionalDependencies\":{}},\n{\"name\":\"b\",\"version\":\"0.0.0\"}]}",
		"{\"optionalDependencies\":{\"b\":\"~1\",\"c\":\"\"},\n\"dependencies\":{\n\"@a/b\":\">=1 <2\"},\"peerDependencies\":{\"b\":\"*\"}}",
	}
}

// P17.1: all short rows of what universes and roots are made of, and samples with each byte another one.
func TestEverywhere(t *testing.T) {
	kinds := map[api.Errno]int{}
	values := []string{`"a"`, `"1.0.0"`, "1", "[]", "{}", `{"name":"a","version":"1.0.0"}`, `{"a":"1"}`, `{"A":"1"}`, `{"a":"A"}`, `{"a":1}`}
	var members []string
	for _, key := range []string{"packages", "name", "version", "dependencies", "peerDependencies", "x"} {
		for _, v := range values {
			members = append(members, `"`+key+`":`+v)
		}
	}
	for _, row := range checks.Lists(members, 2) {
		s := strings.Join(row, ",")
		holds(t, "{"+s+"}", kinds)
		holds(t, `{"packages":[{`+s+"}]}", kinds)
		holds(t, inPackage(s), kinds)
	}
	for _, row := range checks.Lists(append(values, `{"name":"b","version":"2.0.0","dependencies":{"a":"2"}}`), 3) {
		holds(t, `{"packages":[`+strings.Join(row, ",\n")+"]}", kinds)
	}
	for _, s := range samples() {
		for _, edited := range checks.Edited(s, "aA1._/@{}[]\":, \n\\") {
			holds(t, edited, kinds)
		}
	}
	enough(t, kinds, 100, api.OK, form, short, word, twice, miss, wrongType, badVersion, badName, badSpec)
}

// maker makes texts of universes and roots that are often wrong somewhere.
type maker struct{ source *rand.Rand }

func (m maker) pick(l ...string) string { return l[m.source.Intn(len(l))] }

// seldom is true once in many times.
func (m maker) seldom() bool { return m.source.Intn(60) == 0 }

func (m maker) any() string {
	return m.pick("null", "true", "1", `""`, `"a"`, `"1.0.0"`, "[]", "{}", `{"a":"1"}`, `["a"]`)
}

func (m maker) blank() string {
	return m.pick("", "", "", "", " ", "\n", "\r\n", "\t", "\n\n ")
}

// row is values with their signs between, and perhaps blanks.
func (m maker) row(open, close string, l []string) string {
	for i, s := range l {
		l[i] = m.blank() + s + m.blank()
	}
	return open + strings.Join(l, ",") + close
}

func (m maker) member(key, value string) string {
	if m.seldom() {
		value = m.any()
	}
	if m.seldom() {
		key = m.pick("", "x", "Name", "a", "name", "packages")
	}
	return `"` + key + `"` + m.blank() + ":" + m.blank() + value
}

func (m maker) name() string {
	if m.seldom() {
		return m.pick("", "A", ".a", "@a", "a/b", strings.Repeat("a", 49))
	}
	return m.pick("@a/", "", "", "@"+strings.Repeat("b", 40)+"/") + m.pick("a", "b", "c", "d-e", "~1.") + strconv.Itoa(m.source.Intn(100))
}

func (m maker) spec() string {
	if m.seldom() {
		return `"` + m.pick("!", "01", "1.", "latest") + `"`
	}
	return `"` + m.pick("", "1", "^1.2", "~2", "\\t*", "1 || 2", " 1 - 2") + `"`
}

func (m maker) sections() []string {
	var l []string
	for _, i := range m.source.Perm(3)[:m.source.Intn(4)] {
		count := m.source.Intn(4)
		if m.source.Intn(8) == 0 {
			count = 10 + m.source.Intn(24)
		}
		var deps []string
		for range count {
			deps = append(deps, m.member(m.name(), m.spec()))
		}
		l = append(l, m.member(sectionKeys()[i], m.row("{", "}", deps)))
	}
	return l
}

func (m maker) one() string {
	if m.seldom() {
		return m.any()
	}
	l := m.sections()
	if !m.seldom() {
		l = append(l, m.member("name", `"`+m.name()+`"`))
	}
	if !m.seldom() {
		l = append(l, m.member("version", m.pick(`"1.0.0"`, `"2.0.0-a"`, `"1.2.3+b"`)))
	}
	m.source.Shuffle(len(l), func(i, k int) { l[i], l[k] = l[k], l[i] })
	return m.row("{", "}", l)
}

func (m maker) universe() string {
	count := m.source.Intn(5)
	if m.source.Intn(10) == 0 {
		count = 60 + m.source.Intn(8)
	}
	var l []string
	for range count {
		if count < 60 || m.seldom() {
			l = append(l, m.one())
		} else {
			l = append(l, `{"version":"1.0.0","name":"a"}`)
		}
	}
	return m.row("{", "}", []string{m.member("packages", m.row("[", "]", l))})
}

// P17.1: many texts.
func TestManyTexts(t *testing.T) {
	m, kinds := maker{rand.New(rand.NewSource(17))}, map[api.Errno]int{}
	for range 5000 {
		holds(t, m.universe(), kinds)
		holds(t, m.row("{", "}", m.sections()), kinds)
	}
	enough(t, kinds, 50, api.OK, word, twice, miss, wrongType, badName, badSpec, full)
}

// P17.1: any bytes.
func TestAnyBytes(t *testing.T) {
	source, kinds := rand.New(rand.NewSource(7)), map[api.Errno]int{}
	for range 20000 {
		s := []byte(samples()[source.Intn(3)])
		for range source.Intn(4) {
			s[source.Intn(len(s))] = byte(source.Intn(256))
		}
		holds(t, string(s), kinds)
		wild := make([]byte, source.Intn(20))
		source.Read(wild)
		holds(t, string(wild), kinds)
	}
}

// P17.1 Name, by its words.
func TestNameEverywhere(t *testing.T) {
	w := newJudge("", false)
	names := 0
	for _, s := range checks.Rows([]string{"@", "/", "a", "0", ".", "_", "-", "A"}, 6) {
		want := w.isName(s)
		if npmman.Name(s) != want {
			t.Fatalf("Name(%q) = %v", s, !want)
		}
		if want {
			names++
		}
	}
	if names < 10000 {
		t.Errorf("only %d names", names)
	}
}
