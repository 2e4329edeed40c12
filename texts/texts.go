// Package texts puts texts in the order of what they say. It is no layer: the layers whose texts that are none have a place too share it.
package texts

import (
	"slices"
	"strings"

	"dovetail/api"
)

// reading is a text with what it says, if it is of its form.
type reading[V any] struct {
	text  string
	value V
	ok    bool
}

func read[V any](s string, parse func(string) (V, api.Fault)) reading[V] {
	v, f := parse(s)
	return reading[V]{text: s, value: v, ok: f.Err == api.OK}
}

func compare[V any](a, b reading[V], order func(a, b V) int) int {
	switch {
	case a.ok && b.ok:
		return order(a.value, b.value)
	case a.ok:
		return 1
	case b.ok:
		return -1
	}
	return strings.Compare(a.text, b.text)
}

// Compare compares texts by what they say. One that parse does not take is ahead of all that it takes; two such are compared byte by byte.
func Compare[V any](a, b string, parse func(string) (V, api.Fault), order func(a, b V) int) int {
	return compare(read(a, parse), read(b, parse), order)
}

// Sort is a list in the order of Compare; those that are alike stay in their order.
func Sort[V any](l []string, parse func(string) (V, api.Fault), order func(a, b V) int) []string {
	// Each text is read once, not at each comparison.
	readings := make([]reading[V], len(l))
	for i, s := range l {
		readings[i] = read(s, parse)
	}
	slices.SortStableFunc(readings, func(a, b reading[V]) int { return compare(a, b, order) })
	sorted := make([]string, len(l))
	for i, r := range readings {
		sorted[i] = r.text
	}
	return sorted
}
