package json

import (
	"iter"
	"strings"
	"unicode/utf8"

	"dovetail/api"
	"dovetail/faults"
)

const (
	blanks         = " \t\n\r"
	digits         = "0123456789"
	smallHexDigits = digits + "abcdef"
	hexDigits      = smallHexDigits + "ABCDEF"
	// What stands behind a \ that begins an escape of one byte, and those bytes, one below the other.
	escapes = `"\/bfnrt`
	escaped = "\"\\/\b\f\n\r\t"
	// The least first half and the least second half of a number that UTF-16 has in two, and the least such number.
	firstHalf  = 0xd800
	secondHalf = 0xdc00
	firstPair  = 0x10000
)

// reader goes over a text, byte by byte. At the first one with which no text goes on it panics with its fault, so that no part need ask how those within it went.
type reader struct {
	text string
	at   int
	// How many lists and objects are open.
	depth int
}

func read(s string) api.Json {
	r := &reader{text: s}
	if len(s) > api.MaxText {
		r.fail(api.ErrLong, api.MaxText)
	}
	r.skipBlanks()
	j := r.value()
	r.skipBlanks()
	if r.at < len(s) {
		r.misfit()
	}
	return j
}

func (r *reader) fail(err api.Errno, at int) { panic(api.Fault{Err: err, At: at}) }

// misfit fails where something else must stand next.
func (r *reader) misfit() { r.fail(faults.Misfit(r.text, r.at), r.at) }

// peek is the byte that stands next. At the text's end it is a byte with which no text goes on either.
func (r *reader) peek() byte {
	if r.at == len(r.text) {
		return 0
	}
	return r.text[r.at]
}

func (r *reader) nextIs(set string) bool { return strings.IndexByte(set, r.peek()) >= 0 }

// skip passes a byte over, if it is one of a set.
func (r *reader) skip(set string) bool {
	found := r.nextIs(set)
	if found {
		r.at++
	}
	return found
}

// take is the byte that stands next, which must be one of a set.
func (r *reader) take(set string) byte {
	c := r.peek()
	if !r.skip(set) {
		r.misfit()
	}
	return c
}

func (r *reader) skipBlanks() {
	for r.skip(blanks) {
	}
}

func (r *reader) word(s string) {
	for i := range len(s) {
		r.take(s[i : i+1])
	}
}

func (r *reader) value() api.Json {
	j := api.Json{At: r.at}
	switch r.peek() {
	case 'n':
		j.Kind = api.JsNull
		r.word(null)
	case 'f':
		j.Kind = api.JsFalse
		r.word(no)
	case 't':
		j.Kind = api.JsTrue
		r.word(yes)
	case '"':
		j.Kind, j.Text = api.JsString, r.quoted()
	case '[':
		j.Kind, j.Kids = api.JsList, r.list()
	case '{':
		j.Kind = api.JsObject
		j.Keys, j.Kids = r.object()
	default:
		// With any other byte that may stand there a number begins.
		j.Kind, j.Text = api.JsNumber, r.number()
	}
	return j
}

// number is a number's bytes.
func (r *reader) number() string {
	start := r.at
	r.skip("-")
	switch {
	case !r.skip("0"):
		r.digits()
	case r.nextIs(digits):
		r.fail(api.ErrZero, r.at)
	}
	if r.skip(".") {
		r.digits()
	}
	if r.skip("eE") {
		r.skip("+-")
		r.digits()
	}
	return r.text[start:r.at]
}

func (r *reader) digits() {
	r.take(digits)
	for r.skip(digits) {
	}
}

// quoted is what a string says.
func (r *reader) quoted() string {
	r.take(`"`)
	var said []byte
	for !r.skip(`"`) {
		switch c := r.peek(); {
		case c < ' ':
			r.misfit()
		case c == '\\':
			r.at++
			said = r.appendEscaped(said)
		default:
			r.at++
			said = append(said, c)
		}
	}
	return string(said)
}

// appendEscaped lays behind what is said already what an escape says, behind its \.
func (r *reader) appendEscaped(said []byte) []byte {
	if r.skip("u") {
		return utf8.AppendRune(said, r.char())
	}
	c := r.take(escapes)
	return append(said, escaped[strings.IndexByte(escapes, c)])
}

// char is the number that stands behind a \u, and perhaps in a second escape behind it.
func (r *reader) char() rune {
	if !r.nextIs("dD") {
		return r.number16(hexDigits, hexDigits)
	}
	// A second half has no place but behind a first one.
	first := r.number16("dD", digits+"abAB")
	if first < firstHalf {
		return first
	}
	r.word(`\u`)
	second := r.number16("dD", "cdefCDEF")
	return (first-firstHalf)<<10 + (second - secondHalf) + firstPair
}

// number16 is a number of UTF-16 in four digits, of which the first two are of some sets.
func (r *reader) number16(first, second string) rune {
	var n rune
	for _, set := range [...]string{first, second, hexDigits, hexDigits} {
		n = n<<4 + hexValue(r.take(set))
	}
	return n
}

func hexValue(digit byte) rune {
	// The bit makes a great letter a small one, and all other digits have it already.
	return rune(strings.IndexByte(smallHexDigits, digit|('a'-'A')))
}

// items hands out the place of each thing in brackets with "," between: who takes it reads it.
func (r *reader) items(closing string) iter.Seq[int] {
	return func(yield func(int) bool) {
		if r.depth == api.MaxDepth {
			r.fail(api.ErrDeep, r.at)
		}
		r.at++
		r.depth++
		r.skipBlanks()
		for goesOn := !r.skip(closing); goesOn; goesOn = r.take(","+closing) == ',' {
			r.skipBlanks()
			if !yield(r.at) {
				return
			}
			r.skipBlanks()
		}
		r.depth--
	}
}

func (r *reader) list() []api.Json {
	var kids []api.Json
	for range r.items("]") {
		kids = append(kids, r.value())
	}
	return kids
}

func (r *reader) object() ([]string, []api.Json) {
	var keys []string
	var kids []api.Json
	seen := keySet{}
	for at := range r.items("}") {
		key := r.quoted()
		if !seen.add(key) {
			r.fail(api.ErrTwice, at)
		}
		r.skipBlanks()
		r.take(":")
		r.skipBlanks()
		keys, kids = append(keys, key), append(kids, r.value())
	}
	return keys, kids
}
