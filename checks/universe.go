package checks

import (
	"slices"
	"strings"

	"dovetail/api"
)

// Marked is a text without its mark, a §, and the place of that.
func Marked(s string) (string, int) {
	ahead, behind, _ := strings.Cut(s, "§")
	return ahead + behind, len(ahead)
}

// Share tells whether any two of some lists lie in the same memory, spare room and all.
func Share[T any](lists ...[]T) bool {
	seen := map[*T]struct{}{}
	count := 0
	for _, l := range lists {
		all := l[:cap(l)]
		for i := range all {
			seen[&all[i]] = struct{}{}
		}
		count += len(all)
	}
	return len(seen) < count
}

// SameUniverse tells whether two universes are the same, lines and all. A list that is not there is the same as one that is empty.
func SameUniverse(a, b api.Universe) bool {
	return a.Dialect == b.Dialect && slices.EqualFunc(a.Packages, b.Packages, func(p, q api.Package) bool {
		return p.Name == q.Name && p.Version == q.Version && p.Line == q.Line && slices.Equal(p.Deps, q.Deps) && slices.Equal(p.Provides, q.Provides) && slices.Equal(p.Extras, q.Extras)
	})
}

// Copied is a universe in memory of its own, with what lies in its spare room.
func Copied(u api.Universe) api.Universe {
	u.Packages = slices.Clone(u.Packages[:cap(u.Packages)])
	for i := range u.Packages {
		p := &u.Packages[i]
		p.Deps = slices.Clone(p.Deps[:cap(p.Deps)])
		p.Provides = slices.Clone(p.Provides[:cap(p.Provides)])
		p.Extras = slices.Clone(p.Extras[:cap(p.Extras)])
	}
	return u
}

// InLine is a universe of which all stands in one line.
func InLine(u api.Universe, line int) api.Universe {
	u.Packages = slices.Clone(u.Packages)
	for i := range u.Packages {
		p := &u.Packages[i]
		p.Line, p.Deps = line, slices.Clone(p.Deps)
		for k := range p.Deps {
			p.Deps[k].Line = line
		}
	}
	return u
}

// Roomy is a universe in memory of its own, of which each list has spare room with something in it.
func Roomy(u api.Universe) api.Universe {
	spare := api.Package{Name: "spare", Version: "1", Line: 1}
	packages := append(slices.Clone(u.Packages), spare, spare)
	for i := range packages {
		p := &packages[i]
		p.Deps = append(slices.Clone(p.Deps), api.Dep{Kind: api.RqNeeds, Text: "spare 1", Line: 1}, api.Dep{Text: "spare"})[:len(p.Deps)]
		p.Provides = append(slices.Clone(p.Provides), "spare", "")[:len(p.Provides)]
		p.Extras = append(slices.Clone(p.Extras), "spare", "")[:len(p.Extras)]
	}
	u.Packages = packages[:len(u.Packages)]
	return u
}

// ShareUniverses tells whether any two lists of some universes lie in the same memory.
func ShareUniverses(l ...api.Universe) bool {
	var packages [][]api.Package
	var deps [][]api.Dep
	var texts [][]string
	for _, u := range l {
		packages = append(packages, u.Packages)
		for _, p := range u.Packages {
			deps, texts = append(deps, p.Deps), append(texts, p.Provides, p.Extras)
		}
	}
	return Share(packages...) || Share(deps...) || Share(texts...)
}

// Emptied clears all lists of a universe where they lie.
func Emptied(u api.Universe) {
	for _, p := range u.Packages {
		clear(p.Deps[:cap(p.Deps)])
		clear(p.Provides[:cap(p.Provides)])
		clear(p.Extras[:cap(p.Extras)])
	}
	clear(u.Packages[:cap(u.Packages)])
}
