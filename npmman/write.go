package npmman

import (
	"cmp"
	"slices"
	"strings"

	"dovetail/api"
)

// canBeSaid tells whether a universe has nothing but what a text can say, whether or not it is one that is read.
func canBeSaid(u api.Universe) bool {
	return u.Dialect == api.DiNpm && !slices.ContainsFunc(u.Packages, func(p api.Package) bool {
		return len(p.Provides) > 0 || len(p.Extras) > 0 || slices.ContainsFunc(p.Deps, hasNoRange)
	})
}

func hasNoRange(d api.Dep) bool { return !strings.Contains(d.Text, " ") }

func universeValue(u api.Universe) api.Json {
	l := api.Json{Kind: api.JsList}
	for _, p := range u.Packages {
		l.Kids = append(l.Kids, packageValue(p))
	}
	j := api.Json{Kind: api.JsObject}
	put(&j, packagesKey, l)
	return j
}

func packageValue(p api.Package) api.Json {
	j := api.Json{Kind: api.JsObject}
	put(&j, nameKey, said(p.Name))
	put(&j, versionKey, said(p.Version))
	for _, deps := range bySection(p.Deps) {
		put(&j, keyOf(deps[0].Kind), sectionValue(deps))
	}
	return j
}

// bySection parts requirements where their kind changes, and puts the parts in the order in which sections are written. Of a kind that comes again there are two, so that its key stands twice, as it does in no text.
func bySection(deps []api.Dep) [][]api.Dep {
	var parts [][]api.Dep
	for len(deps) > 0 {
		end := slices.IndexFunc(deps, func(d api.Dep) bool { return d.Kind != deps[0].Kind })
		if end < 0 {
			end = len(deps)
		}
		parts, deps = append(parts, deps[:end]), deps[end:]
	}
	// The sections' kinds rise as they are written.
	slices.SortStableFunc(parts, func(a, b []api.Dep) int { return cmp.Compare(a[0].Kind, b[0].Kind) })
	return parts
}

func sectionValue(deps []api.Dep) api.Json {
	j := api.Json{Kind: api.JsObject}
	for _, d := range deps {
		name, spec, _ := strings.Cut(d.Text, " ")
		put(&j, name, said(spec))
	}
	return j
}

// keyOf is the key of the section of a kind; "", which is the key of none, where there is no such section.
func keyOf(kind int) string {
	for _, s := range sections {
		if s.kind == kind {
			return s.key
		}
	}
	return ""
}

func said(s string) api.Json { return api.Json{Kind: api.JsString, Text: s} }

// put gives an object one more member.
func put(j *api.Json, key string, value api.Json) {
	j.Keys, j.Kids = append(j.Keys, key), append(j.Kids, value)
}
