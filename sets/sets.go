// Package sets tells what is there already. It is no layer, and calls none, so that a layer that calls no other can use it.
package sets

// Texts is texts, each one once.
type Texts map[string]struct{}

// Add tells whether a text was not there yet.
func (l Texts) Add(s string) bool {
	before := len(l)
	l[s] = struct{}{}
	return len(l) > before
}
