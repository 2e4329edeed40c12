// Package texts is what several layers share in reading texts and in putting them in the order of what they say. It is no layer.
package texts

import (
	"iter"
	"slices"
	"strings"

	"dovetail/api"
	"dovetail/scan"
)

// Epoch is the epoch at the head of a version, without noughts ahead, and the place behind its ":". They are "0" and 0, where the text does not begin with digits and a ":".
func Epoch(s string) (string, int) {
	end := scan.Run(s, 0, api.CsDigit)
	if end == 0 || end == len(s) || s[end] != ':' {
		return "0", 0
	}
	return scan.Trim(s[:end]), end + len(":")
}

// Line is the line, from 1 on, in which a place of a text stands: bytes 10 end lines.
func Line(s string, at int) int { return 1 + strings.Count(s[:at], "\n") }

// SideBySide hands out two texts part by part, until nothing is left of both. cut is a text's first part and what is left behind it, which must be shorter; of nothing it is what stands for the parts by which one text has fewer.
func SideBySide[P any](a, b string, cut func(string) (P, string)) iter.Seq2[P, P] {
	return func(yield func(P, P) bool) {
		for restA, restB := a, b; restA != "" || restB != ""; {
			var x, y P
			x, restA = cut(restA)
			y, restB = cut(restB)
			if !yield(x, y) {
				return
			}
		}
	}
}

// reading is a text with what it says, if it is of its form.
type reading[V any] struct {
	text  string
	value V
	ok    bool
}

func read[V any](s string, parse func(string) (V, api.Fault)) reading[V] {
	v, f := parse(s)
	return reading[V]{text: s, value: v, ok: f.Err == api.OK}
}

// compare leaves two texts that say nothing to unread.
func compare[V any](a, b reading[V], order func(a, b V) int, unread func(a, b string) int) int {
	switch {
	case a.ok && b.ok:
		return order(a.value, b.value)
	case a.ok:
		return 1
	case b.ok:
		return -1
	}
	return unread(a.text, b.text)
}

func alike(a, b string) int { return 0 }

// Compare compares texts by what they say. One that parse does not take is ahead of all that it takes; two such are compared byte by byte.
func Compare[V any](a, b string, parse func(string) (V, api.Fault), order func(a, b V) int) int {
	return compare(read(a, parse), read(b, parse), order, strings.Compare)
}

// CompareLoosely is Compare, but that two texts that parse does not take are alike.
func CompareLoosely[V any](a, b string, parse func(string) (V, api.Fault), order func(a, b V) int) int {
	return compare(read(a, parse), read(b, parse), order, alike)
}

// Sort is a list in the order of Compare; those that are alike stay in their order.
func Sort[V any](l []string, parse func(string) (V, api.Fault), order func(a, b V) int) []string {
	// Each text is read once, not at each comparison.
	readings := make([]reading[V], len(l))
	for i, s := range l {
		readings[i] = read(s, parse)
	}
	slices.SortStableFunc(readings, func(a, b reading[V]) int { return compare(a, b, order, strings.Compare) })
	sorted := make([]string, len(l))
	for i, r := range readings {
		sorted[i] = r.text
	}
	return sorted
}

// Latest is the one of the texts that are wanted that is behind all others, of several the first; "" and false, if none is wanted.
func Latest(l []string, wanted func(string) bool, compare func(a, b string) int) (string, bool) {
	latest, found := "", false
	for _, s := range l {
		if wanted(s) && (!found || compare(s, latest) > 0) {
			latest, found = s, true
		}
	}
	return latest, found
}
