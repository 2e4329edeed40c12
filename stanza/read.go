package stanza

import (
	"iter"
	"strings"

	"dovetail/api"
	"dovetail/faults"
	"dovetail/scan"
)

const colon = ":"

// place is where a field stands: its line, its name's first byte, its value's first byte.
type place struct {
	line int
	at   int
	from int
}

// field is a field as far as it is read, with where it stands.
type field struct {
	place
	name  string
	parts []string
}

// add lays a part of a value, which begins at a place, behind those that are there.
func (f *field) add(part string, at int) api.Fault {
	if end := valueEnd(part); end < len(part) {
		return api.Fault{Err: api.ErrForm, At: at + end}
	}
	if text, _ := scan.Strip(part); text != "" {
		f.parts = append(f.parts, text)
	}
	return api.Fault{}
}

// whole is a field to which nothing is added any more.
func (f *field) whole() api.Field {
	return api.Field{Name: f.name, Value: strings.Join(f.parts, " "), Line: f.line, At: f.at, From: f.from}
}

// reader takes a text line by line.
type reader struct {
	stanzas []api.Stanza
	// The fields of the stanza that has begun; none, if none has.
	fields []field
}

// lines hands out a text's lines with their places, comments passed over.
func lines(s string) iter.Seq[api.Piece] {
	return func(yield func(api.Piece) bool) {
		for _, line := range scan.Lines(s) {
			if !strings.HasPrefix(line.Text, "#") && !yield(line) {
				return
			}
		}
	}
}

func (r *reader) take(line api.Piece) api.Fault {
	blanks := scan.Run(line.Text, 0, api.CsBlank)
	switch {
	case blanks == len(line.Text):
		r.endStanza()
		return api.Fault{}
	case blanks == 0:
		return r.beginField(line)
	case len(r.fields) == 0:
		return api.Fault{Err: api.ErrForm, At: line.At}
	}
	return r.last().add(line.Text, line.At)
}

func (r *reader) last() *field { return &r.fields[len(r.fields)-1] }

func (r *reader) beginField(line api.Piece) api.Fault {
	end := nameEnd(line.Text)
	switch {
	case end > api.MaxName:
		return api.Fault{Err: api.ErrLong, At: line.At + api.MaxName}
	case end == 0 || !strings.HasPrefix(line.Text[end:], colon):
		return api.Fault{Err: faults.Misfit(line.Text, end), At: line.At + end}
	}
	behind := end + len(colon)
	from := scan.Run(line.Text, behind, api.CsBlank)
	r.fields = append(r.fields, field{
		place: place{line: line.Line, at: line.At, from: line.At + from},
		name:  scan.Lower(line.Text[:end]),
	})
	return r.last().add(line.Text[behind:], line.At+behind)
}

// endStanza ends the stanza that has begun, if one has.
func (r *reader) endStanza() {
	if len(r.fields) == 0 {
		return
	}
	x := api.Stanza{Line: r.fields[0].line}
	for i := range r.fields {
		x.Fields = append(x.Fields, r.fields[i].whole())
	}
	r.stanzas, r.fields = append(r.stanzas, x), nil
}

// nameEnd is the place of the first byte with which no name goes on, however long it is.
func nameEnd(s string) int {
	end := scan.Run(s, 0, api.CsLetter)
	for 0 < end && end < len(s) && (scan.Is(s[end], api.CsAlnum) || s[end] == '-') {
		end++
	}
	return end
}

// valueEnd is the place of the first byte that may not stand in a value.
func valueEnd(s string) int {
	end := 0
	for end < len(s) && (' ' <= s[end] && s[end] <= '~' || s[end] == '\t') {
		end++
	}
	return end
}
