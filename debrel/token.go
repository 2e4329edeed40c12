package debrel

import (
	"iter"
	"slices"
	"strings"

	"dovetail/api"
	"dovetail/scan"
)

// The bytes beside small letters and digits that may stand behind the first one of a package's name, and of an architecture's.
const (
	nameMarks = "+-."
	archMarks = "-"
)

// How many bytes a package's name has at least, and an architecture's.
const (
	leastName = 2
	leastArch = 1
)

func operators() []string { return []string{"<<", "<=", "=", ">=", ">>"} }

func isOperator(s string) bool { return slices.Contains(operators(), s) }

// token is a piece of a relation: its bytes, their place, and that of the blanks ahead of them.
type token struct {
	text     string
	blanksAt int
	at       int
}

// apart tells whether blanks stand ahead of a token.
func (t token) apart() bool { return t.blanksAt < t.at }

func (t token) end() int { return t.at + len(t.text) }

// tokens hands out a text piece by piece; the last one is empty, at the text's end. It must be left at a token that may not stand where it does: how those behind it are cut hangs on it.
func tokens(s string) iter.Seq[token] {
	return func(yield func(token) bool) {
		var t token
		for {
			at := scan.Run(s, t.end(), api.CsSpace)
			t = token{text: cut(s[at:], t.text), blanksAt: t.end(), at: at}
			if !yield(t) || t.text == "" {
				return
			}
		}
	}
}

// cut is the piece with which a text goes on behind another one: a byte alone, where none begins that is longer.
func cut(rest, ahead string) string {
	end := 0
	switch {
	case ahead == "(":
		operator, _ := scan.Word(rest, 0, operators())
		end = len(operator)
	case isOperator(ahead):
		end = versionEnd(rest)
	default:
		end = wordEnd(rest, nameMarks)
	}
	return rest[:min(max(end, 1), len(rest))]
}

// versionEnd is the place of the first byte that ends a version, of whatever bytes that is.
func versionEnd(s string) int {
	end := 0
	for end < len(s) && s[end] != ')' && !scan.Is(s[end], api.CsSpace) {
		end++
	}
	return end
}

// wordEnd is the place of the first byte with which no name goes on, behind whose first byte some marks may stand.
func wordEnd(s, marks string) int {
	end := 0
	for end < len(s) && (isPlain(s[end]) || end > 0 && strings.IndexByte(marks, s[end]) >= 0) {
		end++
	}
	return end
}

func isPlain(c byte) bool { return scan.Is(c, api.CsLower) || scan.Is(c, api.CsDigit) }
