// Package scan is layer 1: classes of bytes, digits as numbers of any length, lines and pieces with their places.
package scan

import (
	"cmp"
	"iter"
	"strings"

	"dovetail/api"
)

// Is tells whether a byte is of a class.
func Is(c byte, class int) bool {
	switch class {
	case api.CsDigit:
		return within(c, '0', '9')
	case api.CsLower:
		return within(c, 'a', 'z')
	case api.CsUpper:
		return within(c, 'A', 'Z')
	case api.CsLetter:
		return within(c, 'a', 'z') || within(c, 'A', 'Z')
	case api.CsAlnum:
		return within(c, 'a', 'z') || within(c, 'A', 'Z') || within(c, '0', '9')
	case api.CsBlank:
		return c == ' ' || c == '\t'
	case api.CsSpace:
		return c == ' ' || c == '\t' || c == '\n' || c == '\r'
	}
	return false
}

func within(c, low, high byte) bool { return low <= c && c <= high }

// Run is the end of the bytes of a class, from a place on.
func Run(s string, at int, class int) int {
	if !inside(s, at) {
		return at
	}
	for i := range len(s) - at {
		if !Is(s[at+i], class) {
			return at + i
		}
	}
	return len(s)
}

// The length itself is a place: that of the text's end.
func inside(s string, at int) bool { return 0 <= at && at <= len(s) }

// Trim is digits without noughts ahead.
func Trim(d string) string {
	for i := range len(d) {
		if d[i] != '0' {
			return d[i:]
		}
	}
	return "0"
}

// Cmp is the order of two texts of digits, as numbers.
func Cmp(a, b string) int {
	a, b = Trim(a), Trim(b)
	if len(a) != len(b) {
		return cmp.Compare(len(a), len(b))
	}
	return strings.Compare(a, b)
}

// Next is digits, and one.
func Next(d string) string {
	if Run(d, 0, api.CsDigit) != len(d) {
		return "1"
	}
	digits := []byte(Trim(d))
	for i := len(digits) - 1; i >= 0; i-- {
		if digits[i] != '9' {
			digits[i]++
			return string(digits)
		}
		digits[i] = '0'
	}
	return "1" + string(digits)
}

// Strip is a text without blanks at its ends, and how many were ahead.
func Strip(s string) (string, int) {
	start, end := Run(s, 0, api.CsBlank), len(s)
	for end > start && Is(s[end-1], api.CsBlank) {
		end--
	}
	return s[start:end], start
}

// pieces hands out what stands between bytes, each with its place.
func pieces(s string, sep byte) iter.Seq2[int, string] {
	return func(yield func(int, string) bool) {
		at := 0
		for i := range len(s) {
			if s[i] != sep {
				continue
			}
			if !yield(at, s[at:i]) {
				return
			}
			at = i + 1
		}
		yield(at, s[at:])
	}
}

// Lines is a text's lines.
func Lines(s string) []api.Piece {
	var lines []api.Piece
	for at, text := range pieces(s, '\n') {
		// Only what stands behind the last 10 can begin at the end, and it is empty then.
		if at == len(s) {
			break
		}
		lines = append(lines, api.Piece{Text: strings.TrimSuffix(text, "\r"), At: at, Line: len(lines) + 1})
	}
	return lines
}

// Split is what stands between bytes.
func Split(s string, sep byte) []api.Piece {
	var parts []api.Piece
	for at, text := range pieces(s, sep) {
		parts = append(parts, api.Piece{Text: text, At: at})
	}
	return parts
}

// Lower is a text with small letters. It goes by bytes, so that bytes above 127 stay as they are.
func Lower(s string) string {
	low := []byte(s)
	for i, c := range low {
		if Is(c, api.CsUpper) {
			low[i] = c - 'A' + 'a'
		}
	}
	return string(low)
}

// Word is the longest of some words with which a text goes on.
func Word(s string, at int, words []string) (string, bool) {
	if !inside(s, at) {
		return "", false
	}
	longest, found := "", false
	for _, w := range words {
		if strings.HasPrefix(s[at:], w) && (!found || len(w) > len(longest)) {
			longest, found = w, true
		}
	}
	return longest, found
}
