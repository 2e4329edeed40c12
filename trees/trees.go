// Package trees goes through what stands in one another. It is no layer, and calls none, so that a layer that calls no other can use it.
package trees

import "iter"

// All hands out a whole and all that stands in it, each one ahead of its own parts, with how many others it stands in.
func All[T any](whole T, parts func(T) []T) iter.Seq2[int, T] {
	return func(yield func(int, T) bool) {
		// All that stands within goes to the same loop, so that what is nested deep is handed out in one step too.
		var from func(depth int, one T) bool
		from = func(depth int, one T) bool {
			if !yield(depth, one) {
				return false
			}
			for _, part := range parts(one) {
				if !from(depth+1, part) {
					return false
				}
			}
			return true
		}
		from(0, whole)
	}
}
