package stanza_test

import (
	"math/rand"
	"slices"
	"strings"
	"testing"

	"dovetail/api"
	"dovetail/checks"
	"dovetail/stanza"
)

const (
	letters = "abcdefghijklmnopqrstuvwxyzABCDEFGHIJKLMNOPQRSTUVWXYZ"
	digits  = "0123456789"
)

func isIn(set string, c byte) bool { return strings.IndexByte(set, c) >= 0 }

func stands(c byte) bool { return 32 <= c && c <= 126 || c == 9 }

// What a line is, as far as it is read.
const (
	unknown = iota
	comment
	blanks
	name
	value
)

// machine reads a text byte by byte, by the chapter's words.
type machine struct {
	text    string
	stanzas []api.Stanza
	fields  []api.Field
	kind    int
	line    int
	start   int
	part    string
}

// endLine ends a line at a place; what is told is a fault, if there is one.
func (m *machine) endLine(at int) api.Fault {
	if at > m.start && m.text[at-1] == '\r' {
		at--
	}
	switch m.kind {
	case unknown, blanks:
		if len(m.fields) > 0 {
			m.stanzas = append(m.stanzas, api.Stanza{Line: m.fields[0].Line, Fields: m.fields})
		}
		m.fields = nil
	case name:
		return api.Fault{Err: short, At: at}
	case value:
		last := &m.fields[len(m.fields)-1]
		if last.From < 0 {
			last.From = at
		}
		part := strings.Trim(m.part, " \t")
		if last.Value != "" && part != "" {
			last.Value += " "
		}
		last.Value += part
	}
	return api.Fault{}
}

// take takes a byte within a line.
func (m *machine) take(c byte, at int) api.Fault {
	wrong := api.Fault{Err: form, At: at}
	switch m.kind {
	case unknown:
		switch {
		case c == '#':
			m.kind = comment
		case isIn(" \t", c):
			m.kind = blanks
		case isIn(letters, c):
			m.kind = name
		default:
			return wrong
		}
	case blanks:
		if isIn(" \t", c) {
			break
		}
		if len(m.fields) == 0 {
			return api.Fault{Err: form, At: m.start}
		}
		m.kind = value
	case name:
		switch {
		case c == ':':
			m.kind = value
			m.fields = append(m.fields, api.Field{Name: strings.ToLower(m.part), Line: m.line, At: m.start, From: -1})
			m.part = ""
			return api.Fault{}
		case !isIn(letters+digits+"-", c):
			return wrong
		case len(m.part) == 48:
			return api.Fault{Err: long, At: at}
		}
	}
	if m.kind == value {
		if !stands(c) {
			return wrong
		}
		if last := &m.fields[len(m.fields)-1]; last.From < 0 && !isIn(" \t", c) {
			last.From = at
		}
	}
	m.part += string([]byte{c})
	return api.Fault{}
}

// told is what a text says, or what is wrong with it.
func told(s string) ([]api.Stanza, api.Fault) {
	if len(s) > 65536 {
		return nil, api.Fault{Err: long, At: 65536}
	}
	m := &machine{text: s, line: 1}
	for at := range len(s) + 1 {
		isEnd := at == len(s) || s[at] == '\n'
		var f api.Fault
		switch {
		case isEnd:
			f = m.endLine(at)
			m.kind, m.line, m.start, m.part = unknown, m.line+1, at+1, ""
		case s[at] == '\r' && (at+1 == len(s) || s[at+1] == '\n'):
		default:
			f = m.take(s[at], at)
		}
		if f.Err != api.OK {
			return nil, f
		}
	}
	m.kind = unknown
	m.endLine(len(s))
	return m.stanzas, api.Fault{}
}

// samples is texts with all parts.
func samples() []string {
	return []string{
		"Package: a\nDepends: b,\n c\n\nPackage: d",
		"# c\r\nName: x\r\nVersion:1\r\n\t 2 \r\n\r\n \r\nB-9:\r\n",
		"\n\na:\n#\n b\n # c\nA: d\n\t\nq:r:s \n",
		strings.Repeat("n", 48) + ": v",
		"x: 1\n  2\n\t3\n#\n 4\n\nx: 1",
	}
}

// everyText is all short rows of what texts are made of, and samples with each byte another one.
func everyText() []string {
	l := slices.Concat(
		checks.Rows([]string{"a", ":", " ", "\n", "#", "\r", "9", "\x7f"}, 5),
		checks.Rows([]string{"a: b\n", " c\n", "\n", "# d\n", " \t\r\n", "E:", "f"}, 6),
		checks.Rows([]string{"a:", " ", "\t", "b", "\r", "\n", "\x01"}, 6),
	)
	n := strings.Repeat("n", 47)
	for _, r := range checks.Rows([]string{"n", "-", ":", " ", "\n", "."}, 4) {
		l = append(l, n+r, "a:\n"+n+r)
	}
	for _, s := range samples() {
		l = append(l, checks.Edited(s, "aZ0-_:# \t\n\r\x00\x1f~\x7f\x80\xff")...)
	}
	return l
}

// P15.1, by its words.
func TestParseEverywhere(t *testing.T) {
	kinds := map[api.Errno]int{}
	for _, s := range everyText() {
		l, f := stanza.Parse(s)
		want, wrong := told(s)
		if f != wrong || !equal(l, want) {
			t.Errorf("Parse(%q) = %+v, %v, not %+v, %v", s, l, f, want, wrong)
		}
		kinds[f.Err]++
	}
	for err, least := range map[api.Errno]int{api.OK: 10000, form: 10000, short: 10000, long: 300} {
		if kinds[err] < least {
			t.Errorf("only %d texts of the kind %d", kinds[err], err)
		}
	}
}

// P15.1: all rows of bytes, by a fixed source: of any bytes, and of those of which texts are made.
func TestAnyBytes(t *testing.T) {
	source := rand.New(rand.NewSource(15))
	const likely = "aaaabcZ9-:::::   \t\n\n\n\n\r#"
	for range 100000 {
		b := make([]byte, source.Intn(40))
		for i := range b {
			b[i] = likely[source.Intn(len(likely))]
			if source.Intn(60) == 0 {
				b[i] = byte(source.Intn(256))
			}
		}
		s := string(b)
		l, f := stanza.Parse(s)
		if want, wrong := told(s); f != wrong || !equal(l, want) {
			t.Fatalf("Parse(%q) = %+v, %v, not %+v, %v", s, l, f, want, wrong)
		}
	}
}
