package faults

import (
	"strings"

	"dovetail/api"
)

// Reader goes over a text, byte by byte. At the first one with which no text goes on it panics with its fault, so that no part need ask how those within it went.
type Reader struct {
	Text string
	At   int
}

// Fail gives the text up.
func (r *Reader) Fail(err api.Errno, at int) { Fail(err, at) }

// Misfit fails where something else must stand next.
func (r *Reader) Misfit() { r.Fail(Misfit(r.Text, r.At), r.At) }

// Ended tells whether nothing stands next.
func (r *Reader) Ended() bool { return r.At == len(r.Text) }

// Rest is all that stands next.
func (r *Reader) Rest() string { return r.Text[r.At:] }

// Begins tells whether a text stands next.
func (r *Reader) Begins(s string) bool { return strings.HasPrefix(r.Rest(), s) }

// Peek is the byte that stands next; 0 at the text's end.
func (r *Reader) Peek() byte {
	if r.Ended() {
		return 0
	}
	return r.Text[r.At]
}

// NextIs tells whether the byte that stands next is one of a set.
func (r *Reader) NextIs(set string) bool {
	return !r.Ended() && strings.IndexByte(set, r.Peek()) >= 0
}

// Skip passes a byte over, if it is one of a set.
func (r *Reader) Skip(set string) bool {
	found := r.NextIs(set)
	if found {
		r.At++
	}
	return found
}

// SkipAll passes all bytes of a set over, up to the first other one, and tells whether there were any.
func (r *Reader) SkipAll(set string) bool {
	start := r.At
	for r.Skip(set) {
	}
	return r.At > start
}

// Take is the byte that stands next, which must be one of a set.
func (r *Reader) Take(set string) byte {
	c := r.Peek()
	if !r.Skip(set) {
		r.Misfit()
	}
	return c
}

// Any is the byte that stands next, whichever it is.
func (r *Reader) Any() byte {
	if r.Ended() {
		r.Misfit()
	}
	r.At++
	return r.Text[r.At-1]
}

// Word passes a text over, which must stand next.
func (r *Reader) Word(s string) {
	for i := range len(s) {
		r.Take(s[i : i+1])
	}
}

// Through is what stands ahead of the first place at which a text stands, which must be there. Both are passed over.
func (r *Reader) Through(end string) string {
	ahead, _, found := strings.Cut(r.Rest(), end)
	r.At += len(ahead)
	if !found {
		r.Misfit()
	}
	r.At += len(end)
	return ahead
}
