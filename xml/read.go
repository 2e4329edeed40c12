package xml

import (
	"strconv"
	"strings"
	"unicode/utf8"

	"dovetail/api"
	"dovetail/faults"
	"dovetail/sets"
)

const (
	blanks    = " \t\n\r"
	digits    = "0123456789"
	hexDigits = digits + "abcdefABCDEF"
	letters   = "abcdefghijklmnopqrstuvwxyzABCDEFGHIJKLMNOPQRSTUVWXYZ"
	nameFirst = letters + "_"
	nameBytes = nameFirst + digits + "-.:"
	// How many digits a reference to a number has at most.
	mostDigits = 8
)

// reader goes over a text, element by element.
type reader struct {
	faults.Reader
	// How many elements are open.
	depth int
}

func read(s string) api.Xml {
	r := &reader{Reader: faults.Reader{Text: s}}
	if len(s) > api.MaxText {
		r.Fail(api.ErrLong, api.MaxText)
	}
	r.skipHeader()
	r.skipBeside()
	x := r.element()
	r.skipBeside()
	if !r.Ended() {
		// With a < a comment may begin: then what is wrong is the byte behind.
		r.Skip("<")
		r.Misfit()
	}
	return x
}

func (r *reader) skipHeader() {
	if r.Begins("<?") {
		r.Word("<?xml")
		r.Take(blanks)
		r.Through("?>")
	}
}

func (r *reader) skipBlanks() bool { return r.SkipAll(blanks) }

// skipBeside passes over what may stand beside the outermost element.
func (r *reader) skipBeside() {
	for r.skipBlanks(); r.Begins("<!"); r.skipBlanks() {
		r.skipComment()
	}
}

func (r *reader) skipComment() {
	r.Word("<!--")
	r.Through("-->")
}

func (r *reader) element() api.Xml {
	x := api.Xml{At: r.At}
	r.Take("<")
	if r.depth == api.MaxDepth && r.NextIs(nameFirst) {
		r.Fail(api.ErrDeep, x.At)
	}
	x.Name = r.name()
	x.Attrs = r.attrs()
	x.TextAt = r.At
	if r.Take("/>") == '/' {
		r.Take(">")
		return x
	}
	r.depth++
	r.readInto(&x)
	r.depth--
	r.readEnd(x.Name)
	return x
}

// nameRun is how many bytes from the beginning on could be a name's, if it might be of any length.
func nameRun(s string) int {
	if s == "" || strings.IndexByte(nameFirst, s[0]) < 0 {
		return 0
	}
	return len(s) - len(strings.TrimLeft(s, nameBytes))
}

func (r *reader) name() string {
	rest := r.Rest()
	end := nameRun(rest)
	if end > api.MaxName {
		r.Fail(api.ErrLong, r.At+api.MaxName)
	}
	r.At += end
	// That a name has ended only the byte behind it tells.
	if end == 0 || r.Ended() {
		r.Misfit()
	}
	return rest[:end]
}

func (r *reader) attrs() []api.Attr {
	var l []api.Attr
	seen := sets.Texts{}
	for r.skipBlanks() && !r.NextIs("/>") {
		start := r.At
		name := r.name()
		if !seen.Add(name) {
			r.Fail(api.ErrTwice, start)
		}
		r.skipBlanks()
		r.Take("=")
		r.skipBlanks()
		l = append(l, api.Attr{Name: name, Value: r.value()})
	}
	return l
}

func (r *reader) value() string {
	quote := string(r.Take(`"'`))
	said := r.said(quote + "<")
	r.Take(quote)
	return said
}

// said is what bytes and references up to the first of some bytes say.
func (r *reader) said(ends string) string {
	var said []byte
	for !r.NextIs(ends) {
		c := r.Any()
		if c == '&' {
			said = r.appendReference(said)
		} else {
			said = append(said, c)
		}
	}
	return string(said)
}

// appendReference lays behind what is said already what a reference says, behind its &.
func (r *reader) appendReference(said []byte) []byte {
	at := r.At - len("&")
	switch {
	case !r.Skip("#"):
		return append(said, r.named())
	case r.Skip("x"):
		return utf8.AppendRune(said, r.numbered(at, 16, hexDigits))
	}
	return utf8.AppendRune(said, r.numbered(at, 10, digits))
}

// named is the byte whose name stands next.
func (r *reader) named() byte {
	start := r.At
	for {
		var next []byte
		for i := range len(escaped) {
			left, ok := strings.CutPrefix(byteName(escaped[i]), r.Text[start:r.At])
			switch {
			case ok && left == "":
				return escaped[i]
			case ok:
				next = append(next, left[0])
			}
		}
		r.Take(string(next))
	}
}

// numbered is what a number says that stands next, in a reference that begins at a place.
func (r *reader) numbered(at, base int, digits string) rune {
	start := r.At
	r.Take(digits)
	for r.Skip(digits) {
		if r.At-start > mostDigits {
			r.Fail(api.ErrType, at)
		}
	}
	// So few digits are a number in any case.
	n, _ := strconv.ParseInt(r.Text[start:r.At], base, 64)
	r.Take(";")
	if n == 0 || n > utf8.MaxRune || !utf8.ValidRune(rune(n)) {
		r.Fail(api.ErrType, at)
	}
	return rune(n)
}

// readInto reads what stands in an element, up to its "</".
func (r *reader) readInto(x *api.Xml) {
	var texts []api.Piece
	for !r.Begins("</") {
		switch {
		case r.Begins("<!["):
			texts = append(texts, r.cdata())
		case r.Begins("<!"):
			r.skipComment()
		case r.Begins("<"):
			x.Kids = append(x.Kids, r.element())
		default:
			texts = append(texts, r.text())
		}
	}
	x.TextAt = r.At
	if len(texts) > 0 {
		x.TextAt = texts[0].At
	}
	x.Text = joined(texts)
}

func (r *reader) text() api.Piece {
	start := r.At
	return api.Piece{At: start, Text: r.said("<")}
}

func (r *reader) cdata() api.Piece {
	r.Word("<![CDATA[")
	start := r.At
	return api.Piece{At: start, Text: r.Through("]]>")}
}

func joined(texts []api.Piece) string {
	var all strings.Builder
	for _, t := range texts {
		all.WriteString(t.Text)
	}
	return all.String()
}

// readEnd reads an element's end, from its "</" on.
func (r *reader) readEnd(name string) {
	r.Word("</")
	for i := range len(name) {
		switch {
		case r.Ended():
			r.Misfit()
		case !r.Skip(name[i : i+1]):
			r.Fail(api.ErrWord, r.At)
		}
	}
	if r.NextIs(nameBytes) {
		r.Fail(api.ErrWord, r.At)
	}
	r.skipBlanks()
	r.Take(">")
}
