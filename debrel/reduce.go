package debrel

import (
	"slices"

	"dovetail/api"
)

// reduceGroup is the alternatives of a group that count on an architecture, in some build profiles.
func reduceGroup(group []api.DebAlt, arch string, profiles []string) []api.DebAlt {
	var left []api.DebAlt
	for _, a := range group {
		if isFor(a.Archs, arch) && isBuilt(a.Profs, profiles) {
			left = append(left, api.DebAlt{Name: a.Name, Arch: a.Arch, Op: a.Op, Ver: a.Ver})
		}
	}
	return left
}

// isFor tells whether terms name an architecture, or just others that it must not be; no terms do.
func isFor(terms []api.DebTerm, arch string) bool {
	names := func(t api.DebTerm) bool { return !t.Not && t.Name == arch }
	spares := func(t api.DebTerm) bool { return t.Not && t.Name != arch }
	return slices.ContainsFunc(terms, names) || every(terms, spares)
}

// isBuilt tells whether all terms of one of some rows hold of profiles, where there are rows.
func isBuilt(rows [][]api.DebTerm, profiles []string) bool {
	holds := func(t api.DebTerm) bool { return slices.Contains(profiles, t.Name) != t.Not }
	return len(rows) == 0 || slices.ContainsFunc(rows, func(row []api.DebTerm) bool { return every(row, holds) })
}

func every(terms []api.DebTerm, holds func(api.DebTerm) bool) bool {
	return !slices.ContainsFunc(terms, func(t api.DebTerm) bool { return !holds(t) })
}
