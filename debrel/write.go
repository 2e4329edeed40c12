package debrel

import (
	"slices"
	"strings"

	"dovetail/api"
)

// write is a relation's text, whatever it is read as.
func write(l [][]api.DebAlt) string {
	return join(l, ", ", func(group []api.DebAlt) string { return join(group, " | ", writeAlt) })
}

// join is the texts of some items with a text between.
func join[T any](items []T, between string, text func(T) string) string {
	var all []string
	for _, item := range items {
		all = append(all, text(item))
	}
	return strings.Join(all, between)
}

func writeAlt(a api.DebAlt) string {
	parts := []string{a.Name}
	if a.Arch != "" {
		parts[0] += ":" + a.Arch
	}
	if a.Op != "" {
		parts = append(parts, "("+a.Op+" "+a.Ver+")")
	}
	if len(a.Archs) > 0 {
		parts = append(parts, "["+writeTerms(a.Archs)+"]")
	}
	for _, terms := range a.Profs {
		parts = append(parts, "<"+writeTerms(terms)+">")
	}
	return strings.Join(parts, " ")
}

func writeTerms(terms []api.DebTerm) string { return join(terms, " ", writeTerm) }

func writeTerm(t api.DebTerm) string {
	if t.Not {
		return "!" + t.Name
	}
	return t.Name
}

func same(a, b [][]api.DebAlt) bool {
	return slices.EqualFunc(a, b, func(a, b []api.DebAlt) bool { return slices.EqualFunc(a, b, sameAlt) })
}

func sameAlt(a, b api.DebAlt) bool {
	return a.Name == b.Name && a.Arch == b.Arch && a.Op == b.Op && a.Ver == b.Ver &&
		slices.Equal(a.Archs, b.Archs) && slices.EqualFunc(a.Profs, b.Profs, slices.Equal[[]api.DebTerm])
}
