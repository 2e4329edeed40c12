package json

import (
	"iter"
	"strings"
	"unicode/utf8"

	"dovetail/api"
	"dovetail/faults"
	"dovetail/sets"
)

const (
	blanks         = " \t\n\r"
	digits         = "0123456789"
	smallHexDigits = digits + "abcdef"
	hexDigits      = smallHexDigits + "ABCDEF"
	// What stands behind a \ that begins an escape of one byte, and those bytes, one below the other.
	escapes = `"\/bfnrt`
	escaped = "\"\\/\b\f\n\r\t"
	// The least first half and the least second half of a number that UTF-16 has in two, and the least such number.
	firstHalf  = 0xd800
	secondHalf = 0xdc00
	firstPair  = 0x10000
)

// reader goes over a text, value by value.
type reader struct {
	faults.Reader
	// How many lists and objects are open.
	depth int
}

func reading(s string) *reader { return &reader{Reader: faults.Reader{Text: s}} }

func read(s string) api.Json {
	r := reading(s)
	if len(s) > api.MaxText {
		r.Fail(api.ErrLong, api.MaxText)
	}
	r.skipBlanks()
	j := r.value()
	r.skipBlanks()
	if !r.Ended() {
		r.Misfit()
	}
	return j
}

func (r *reader) skipBlanks() { r.SkipAll(blanks) }

func (r *reader) value() api.Json {
	j := api.Json{At: r.At}
	switch r.Peek() {
	case 'n':
		j.Kind = api.JsNull
		r.Word(null)
	case 'f':
		j.Kind = api.JsFalse
		r.Word(no)
	case 't':
		j.Kind = api.JsTrue
		r.Word(yes)
	case '"':
		j.Kind, j.Text = api.JsString, r.quoted()
	case '[':
		j.Kind, j.Kids = api.JsList, r.list()
	case '{':
		j.Kind = api.JsObject
		j.Keys, j.Kids = r.object()
	default:
		// With any other byte that may stand there a number begins.
		j.Kind, j.Text = api.JsNumber, r.number()
	}
	return j
}

// number is a number's bytes.
func (r *reader) number() string {
	start := r.At
	r.Skip("-")
	switch {
	case !r.Skip("0"):
		r.digits()
	case r.NextIs(digits):
		r.Fail(api.ErrZero, r.At)
	}
	if r.Skip(".") {
		r.digits()
	}
	if r.Skip("eE") {
		r.Skip("+-")
		r.digits()
	}
	return r.Text[start:r.At]
}

func (r *reader) digits() {
	r.Take(digits)
	r.SkipAll(digits)
}

// quoted is what a string says.
func (r *reader) quoted() string {
	r.Take(`"`)
	var said []byte
	for !r.Skip(`"`) {
		switch c := r.Peek(); {
		case c < ' ':
			r.Misfit()
		case c == '\\':
			r.At++
			said = r.appendEscaped(said)
		default:
			r.At++
			said = append(said, c)
		}
	}
	return string(said)
}

// appendEscaped lays behind what is said already what an escape says, behind its \.
func (r *reader) appendEscaped(said []byte) []byte {
	if r.Skip("u") {
		return utf8.AppendRune(said, r.char())
	}
	c := r.Take(escapes)
	return append(said, escaped[strings.IndexByte(escapes, c)])
}

// char is the number that stands behind a \u, and perhaps in a second escape behind it.
func (r *reader) char() rune {
	if !r.NextIs("dD") {
		return r.number16(hexDigits, hexDigits)
	}
	// A second half has no place but behind a first one.
	first := r.number16("dD", digits+"abAB")
	if first < firstHalf {
		return first
	}
	r.Word(`\u`)
	second := r.number16("dD", "cdefCDEF")
	return (first-firstHalf)<<10 + (second - secondHalf) + firstPair
}

// number16 is a number of UTF-16 in four digits, of which the first two are of some sets.
func (r *reader) number16(first, second string) rune {
	var n rune
	for _, set := range [...]string{first, second, hexDigits, hexDigits} {
		n = n<<4 + hexValue(r.Take(set))
	}
	return n
}

func hexValue(digit byte) rune {
	// The bit makes a great letter a small one, and all other digits have it already.
	return rune(strings.IndexByte(smallHexDigits, digit|('a'-'A')))
}

// items hands out the place of each thing in brackets with "," between: who takes it reads it.
func (r *reader) items(closing string) iter.Seq[int] {
	return func(yield func(int) bool) {
		if r.depth == api.MaxDepth {
			r.Fail(api.ErrDeep, r.At)
		}
		r.At++
		r.depth++
		r.skipBlanks()
		for goesOn := !r.Skip(closing); goesOn; goesOn = r.Take(","+closing) == ',' {
			r.skipBlanks()
			if !yield(r.At) {
				return
			}
			r.skipBlanks()
		}
		r.depth--
	}
}

func (r *reader) list() []api.Json {
	var kids []api.Json
	for range r.items("]") {
		kids = append(kids, r.value())
	}
	return kids
}

func (r *reader) object() ([]string, []api.Json) {
	var keys []string
	var kids []api.Json
	seen := sets.Texts{}
	for at := range r.items("}") {
		key := r.quoted()
		if !seen.Add(key) {
			r.Fail(api.ErrTwice, at)
		}
		r.skipBlanks()
		r.Take(":")
		r.skipBlanks()
		keys, kids = append(keys, key), append(kids, r.value())
	}
	return keys, kids
}
