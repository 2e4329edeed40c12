package json

import (
	"iter"
	"slices"
	"sort"

	"dovetail/api"
	"dovetail/faults"
	"dovetail/sets"
	"dovetail/trees"
)

// values hands out a value and all that stands in it, each one ahead of what stands in it, with how many others it stands in.
func values(j api.Json) iter.Seq2[int, api.Json] {
	return trees.All(j, func(value api.Json) []api.Json { return value.Kids })
}

func holdsKids(kind int) bool { return kind == api.JsList || kind == api.JsObject }

// fitsAt tells whether a value may stand in that many others, as far as it can be told without its kids.
func fitsAt(depth int, j api.Json) bool {
	if !holdsKids(j.Kind) && len(j.Kids) > 0 || j.Kind != api.JsObject && len(j.Keys) > 0 {
		return false
	}
	switch j.Kind {
	case api.JsNull, api.JsFalse, api.JsTrue:
		return j.Text == ""
	case api.JsNumber:
		return isNumber(j.Text)
	case api.JsString:
		return true
	case api.JsList:
		return j.Text == "" && depth < api.MaxDepth
	case api.JsObject:
		return j.Text == "" && depth < api.MaxDepth && len(j.Keys) == len(j.Kids) && differ(j.Keys)
	}
	return false
}

func isNumber(s string) bool {
	r := reading(s)
	number, f := faults.Caught(r.number)
	return f.Err == api.OK && number == s
}

func differ(keys []string) bool {
	seen := sets.Texts{}
	for _, key := range keys {
		if !seen.Add(key) {
			return false
		}
	}
	return true
}

// memberAt is the place of an object's first kid with a key; -1, if there is none.
func memberAt(j api.Json, key string) int {
	if j.Kind != api.JsObject {
		return -1
	}
	return slices.Index(j.Keys[:min(len(j.Keys), len(j.Kids))], key)
}

// clone is a value in memory of its own.
func clone(j api.Json) api.Json {
	j.Keys, j.Kids = slices.Clone(j.Keys), slices.Clone(j.Kids)
	for i, kid := range j.Kids {
		j.Kids[i] = clone(kid)
	}
	return j
}

// sortKeys puts the keys of a value, and of all that stands in it, in their order where they stand.
func sortKeys(j api.Json) {
	for _, value := range values(j) {
		if value.Kind == api.JsObject && len(value.Keys) == len(value.Kids) {
			sort.Stable(members(value))
		}
	}
}

// members is an object's keys with its kids, by keys.
type members api.Json

func (m members) Len() int           { return len(m.Keys) }
func (m members) Less(a, b int) bool { return m.Keys[a] < m.Keys[b] }

func (m members) Swap(a, b int) {
	m.Keys[a], m.Keys[b] = m.Keys[b], m.Keys[a]
	m.Kids[a], m.Kids[b] = m.Kids[b], m.Kids[a]
}
