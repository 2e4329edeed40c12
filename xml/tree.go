package xml

import (
	"iter"
	"slices"

	"dovetail/api"
	"dovetail/sets"
	"dovetail/trees"
)

// elements hands out an element and all that stand in it, each one ahead of those in it, with how many others it stands in.
func elements(x api.Xml) iter.Seq2[int, api.Xml] {
	return trees.All(x, func(one api.Xml) []api.Xml { return one.Kids })
}

func isName(s string) bool {
	return s != "" && len(s) <= api.MaxName && nameRun(s) == len(s)
}

func attrsFit(l []api.Attr) bool {
	seen := sets.Texts{}
	for _, a := range l {
		if !isName(a.Name) || !seen.Add(a.Name) {
			return false
		}
	}
	return true
}

// named hands out the elements of a name that stand in one itself.
func named(x api.Xml, name string) iter.Seq[api.Xml] {
	return func(yield func(api.Xml) bool) {
		for _, kid := range x.Kids {
			if kid.Name == name && !yield(kid) {
				return
			}
		}
	}
}

// first is the first of those, in the memory in which it lies.
func first(x api.Xml, name string) (api.Xml, bool) {
	for kid := range named(x, name) {
		return kid, true
	}
	return api.Xml{}, false
}

// clone is an element in memory of its own.
func clone(x api.Xml) api.Xml {
	x.Attrs, x.Kids = slices.Clone(x.Attrs), slices.Clone(x.Kids)
	for i, kid := range x.Kids {
		x.Kids[i] = clone(kid)
	}
	return x
}
