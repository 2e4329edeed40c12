package checks

import (
	"slices"
	"strings"
)

// Look is a text that is looked at, and the furthest place at which a byte was asked for: no text goes on with the byte there, if none of those that may stand there is it.
type Look struct {
	text     string
	furthest int
}

// Part is a part of a text: the places behind it, where it begins at a place.
type Part func(l *Look, at int) []int

// Whole tells whether a text is such a part.
func (p Part) Whole(s string) bool { return slices.Contains(p(&Look{text: s}, 0), len(s)) }

// Wrong is the first place from which on no such part goes on with a text that is none.
func (p Part) Wrong(s string) int {
	l := &Look{text: s}
	p(l, 0)
	return l.furthest
}

// GoesOn tells whether such a part begins with a text.
func (p Part) GoesOn(s string) bool { return p.Wrong(s) == len(s) || p.Whole(s) }

// Nothing is the part without bytes.
func Nothing(l *Look, at int) []int { return []int{at} }

// ByteOf is a byte of a set.
func ByteOf(set string) Part {
	return func(l *Look, at int) []int {
		l.furthest = max(l.furthest, at)
		if at < len(l.text) && strings.IndexByte(set, l.text[at]) >= 0 {
			return []int{at + 1}
		}
		return nil
	}
}

// Bytes is the set of the bytes from one to another, without some.
func Bytes(low, high byte, but string) string {
	var l []byte
	for c := int(low); c <= int(high); c++ {
		if strings.IndexByte(but, byte(c)) < 0 {
			l = append(l, byte(c))
		}
	}
	return string(l)
}

// OneOf is one of some parts.
func OneOf(parts ...Part) Part {
	return func(l *Look, at int) []int {
		var ends []int
		for _, p := range parts {
			ends = append(ends, p(l, at)...)
		}
		slices.Sort(ends)
		return slices.Compact(ends)
	}
}

// Row is some parts, one behind the other.
func Row(parts ...Part) Part {
	return func(l *Look, at int) []int {
		ends := []int{at}
		for _, p := range parts {
			var next []int
			for _, end := range ends {
				next = append(next, p(l, end)...)
			}
			slices.Sort(next)
			ends = slices.Compact(next)
		}
		return ends
	}
}

// Literal is a text as it stands.
func Literal(s string) Part {
	var l []Part
	for i := range len(s) {
		l = append(l, ByteOf(s[i:i+1]))
	}
	return Row(l...)
}

// Later is a part that is told only later, so that parts can stand in themselves.
func Later(p *Part) Part { return func(l *Look, at int) []int { return (*p)(l, at) } }

// Perhaps is a part, or nothing.
func Perhaps(p Part) Part { return OneOf(Nothing, p) }

// Some is a part once or more.
func Some(p Part) Part {
	return func(l *Look, at int) []int {
		var all []int
		for last := p(l, at); len(last) > 0; {
			all = append(all, last...)
			var next []int
			for _, end := range last {
				for _, n := range p(l, end) {
					if !slices.Contains(all, n) {
						next = append(next, n)
					}
				}
			}
			slices.Sort(next)
			last = slices.Compact(next)
		}
		return all
	}
}

// Edited is a text with one byte left out, cut off there, or with one of some bytes put in, or in another one's place.
func Edited(s, bytes string) []string {
	var l []string
	for at := range len(s) + 1 {
		for i := range len(bytes) {
			l = append(l, s[:at]+bytes[i:i+1]+s[at:])
			if at < len(s) {
				l = append(l, s[:at]+bytes[i:i+1]+s[at+1:])
			}
		}
		if at < len(s) {
			l = append(l, s[:at]+s[at+1:], s[:at])
		}
	}
	return l
}
