package npmman

import (
	"iter"

	"dovetail/api"
	"dovetail/faults"
	"dovetail/json"
	"dovetail/npmspec"
	"dovetail/semver"
	"dovetail/texts"
)

// The keys that are no sections'.
const (
	packagesKey = "packages"
	nameKey     = "name"
	versionKey  = "version"
)

// sections tells the kind of the requirements that stand in a section, by its key.
var sections = [...]struct {
	key  string
	kind int
}{
	{"dependencies", api.RqNeeds},
	{"peerDependencies", api.RqPeer},
	{"optionalDependencies", api.RqOptional},
}

// reader goes over the values of a text as they stand. At the first one that may not stand where it does it panics with its fault, so that no part need ask how those within it went.
type reader struct{ text string }

func (r reader) value() api.Json { return faults.Good(json.Parse(r.text)) }

func (r reader) line(j api.Json) int { return texts.Line(r.text, j.At) }

// universe reads the text as a universe.
func (r reader) universe() api.Universe {
	u := api.Universe{Dialect: api.DiNpm}
	whole := r.value()
	there := false
	for key, value := range members(whole) {
		if key != packagesKey {
			faults.Fail(api.ErrWord, value.At)
		}
		u.Packages, there = r.packages(value), true
	}
	if !there {
		faults.Fail(api.ErrMiss, whole.At)
	}
	return u
}

// root reads the text as a root.
func (r reader) root() []api.Dep {
	var deps []api.Dep
	for key, value := range members(r.value()) {
		deps = r.section(deps, key, value)
	}
	return deps
}

func (r reader) packages(j api.Json) []api.Package {
	must(j, api.JsList)
	var all []api.Package
	for i, value := range j.Kids {
		if i == api.MaxPkgs {
			faults.Fail(api.ErrFull, value.At)
		}
		all = append(all, r.onePackage(value))
	}
	return all
}

func (r reader) onePackage(j api.Json) api.Package {
	p := api.Package{Line: r.line(j)}
	for key, value := range members(j) {
		switch key {
		case nameKey:
			p.Name = textOf(value, api.ErrName, Name)
		case versionKey:
			p.Version = textOf(value, api.ErrVersion, isVersion)
		default:
			p.Deps = r.section(p.Deps, key, value)
		}
	}
	// Neither a name nor a version is empty.
	if p.Name == "" || p.Version == "" {
		faults.Fail(api.ErrMiss, j.At)
	}
	return p
}

// section lays the requirements that stand at a key behind others of their owner.
func (r reader) section(deps []api.Dep, key string, j api.Json) []api.Dep {
	kind := kindOf(key)
	if kind == 0 {
		faults.Fail(api.ErrWord, j.At)
	}
	for name, value := range members(j) {
		switch {
		case len(deps) == api.MaxDeps:
			faults.Fail(api.ErrFull, value.At)
		case !Name(name):
			faults.Fail(api.ErrName, value.At)
		}
		spec := textOf(value, api.ErrSpec, npmspec.Valid)
		deps = append(deps, api.Dep{Kind: kind, Text: name + " " + spec, Line: r.line(value)})
	}
	return deps
}

// members hands out the keys and values of what must be an object.
func members(j api.Json) iter.Seq2[string, api.Json] {
	must(j, api.JsObject)
	return func(yield func(string, api.Json) bool) {
		for i, key := range j.Keys {
			if !yield(key, j.Kids[i]) {
				return
			}
		}
	}
}

// textOf is what a value says, which must be a string that is good.
func textOf(j api.Json, err api.Errno, good func(string) bool) string {
	must(j, api.JsString)
	if !good(j.Text) {
		faults.Fail(err, j.At)
	}
	return j.Text
}

func must(j api.Json, kind int) {
	if j.Kind != kind {
		faults.Fail(api.ErrType, j.At)
	}
}

// kindOf is the kind of the requirements of a section; 0, where a key is none's.
func kindOf(key string) int {
	for _, s := range sections {
		if s.key == key {
			return s.kind
		}
	}
	return 0
}

func isVersion(s string) bool {
	_, f := semver.Parse(s)
	return f.Err == api.OK
}
