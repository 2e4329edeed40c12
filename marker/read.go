package marker

import (
	"iter"
	"slices"
	"strings"

	"dovetail/api"
	"dovetail/faults"
	"dovetail/pyspec"
	"dovetail/scan"
)

// reader goes over a text, part by part. At the first part that is wrong it panics with its fault, so that no part need ask how those within it went.
type reader struct {
	text string
	at   int
	// How many comparisons are read by now, and how many parentheses are open.
	comparisons, depth int
}

// readWhole reads a text that is just such a part.
func readWhole[T any](s string, part func(*reader) T) (T, api.Fault) {
	return faults.Caught(func() T {
		if len(s) > api.MaxSpec {
			panic(api.Fault{Err: api.ErrLong, At: api.MaxSpec})
		}
		return part(&reader{text: s})
	})
}

func (r *reader) blanks() { r.at = scan.Run(r.text, r.at, api.CsBlank) }

func (r *reader) rest() string { return r.text[r.at:] }

// misfit is the fault where something else must stand next.
func (r *reader) misfit() api.Fault {
	return api.Fault{Err: faults.Misfit(r.text, r.at), At: r.at}
}

// wrong is misfit within a marker: there what stands next may be a word that is none of those that may.
func (r *reader) wrong() api.Fault {
	if r.word() != "" {
		return api.Fault{Err: api.ErrWord, At: r.at}
	}
	return r.misfit()
}

// word is the word that stands next, as long as it can be.
func (r *reader) word() string {
	rest, end := r.rest(), 0
	for end < len(rest) && (scan.Is(rest[end], api.CsLower) || rest[end] == '_') {
		end++
	}
	return rest[:end]
}

// piece is the word that stands next, or else the byte; nothing at the text's end.
func (r *reader) piece() string {
	if word := r.word(); word != "" {
		return word
	}
	return r.rest()[:min(1, len(r.rest()))]
}

// skip passes blanks over, and behind them a piece, if it stands there.
func (r *reader) skip(piece string) bool {
	r.blanks()
	found := r.piece() == piece
	if found {
		r.at += len(piece)
	}
	return found
}

// parts hands out parts with a piece between, as long as that follows, each with the place where it begins.
func parts[T any](r *reader, between string, part func() T) iter.Seq2[int, T] {
	return func(yield func(int, T) bool) {
		for goesOn := true; goesOn; goesOn = r.skip(between) {
			r.blanks()
			if start := r.at; !yield(start, part()) {
				return
			}
		}
	}
}

func (r *reader) requirement() api.Pyreq {
	var q api.Pyreq
	r.blanks()
	q.Name = r.name()
	q.Extras = r.extras()
	q.Spec = r.specifiers()
	q.HasMark = r.skip(";")
	switch {
	case q.HasMark:
		q.Mark = r.wholeMarker()
	case r.rest() != "":
		panic(r.misfit())
	}
	return q
}

// name reads a name, and tells its normal form.
func (r *reader) name() string {
	start := r.at
	if scan.Run(r.text, start, api.CsAlnum) == start {
		panic(r.misfit())
	}
	r.at = nameEnd(r.text, start)
	normal, ok := Name(r.text[start:r.at])
	if !ok {
		panic(api.Fault{Err: api.ErrName, At: start})
	}
	return normal
}

// extras reads names in brackets, if they stand next.
func (r *reader) extras() []string {
	if !r.skip("[") || r.skip("]") {
		return nil
	}
	var l []string
	for start, name := range parts(r, ",", r.name) {
		if len(l) == api.MaxExtras {
			panic(api.Fault{Err: api.ErrLong, At: start})
		}
		l = append(l, name)
	}
	if !r.skip("]") {
		panic(r.misfit())
	}
	slices.Sort(l)
	return slices.Compact(l)
}

// specifiers reads what stands in parentheses, or else up to a marker.
func (r *reader) specifiers() string {
	end := ";"
	enclosed := r.skip("(")
	if enclosed {
		end = ")"
	}
	all, _, _ := strings.Cut(r.rest(), end)
	spec, ahead := scan.Strip(all)
	if _, f := pyspec.Parse(spec); f.Err != api.OK {
		panic(api.Fault{Err: f.Err, At: r.at + ahead + f.At})
	}
	r.at += len(all)
	if enclosed && !r.skip(end) {
		panic(r.misfit())
	}
	return spec
}

// wholeMarker reads a marker behind which nothing stands.
func (r *reader) wholeMarker() api.Mark {
	m := r.marker()
	if r.rest() != "" {
		panic(r.wrong())
	}
	return m
}

func (r *reader) marker() api.Mark { return r.join(api.MkOr, "or", r.and) }

func (r *reader) and() api.Mark { return r.join(api.MkAnd, "and", r.term) }

// join reads markers with a word between, and makes one of a kind of them, if there are several.
func (r *reader) join(op int, between string, part func() api.Mark) api.Mark {
	var subs []api.Mark
	for _, m := range parts(r, between, part) {
		if m.Op == op {
			subs = append(subs, m.Subs...)
		} else {
			subs = append(subs, m)
		}
	}
	if len(subs) == 1 {
		return subs[0]
	}
	return api.Mark{Op: op, Subs: subs}
}

func (r *reader) term() api.Mark {
	start := r.at
	if !r.skip("(") {
		return r.comparison()
	}
	if r.depth == api.MaxDepth {
		panic(api.Fault{Err: api.ErrDeep, At: start})
	}
	r.depth++
	m := r.marker()
	if !r.skip(")") {
		panic(r.wrong())
	}
	r.depth--
	return m
}

func (r *reader) comparison() api.Mark {
	if r.comparisons == api.MaxTerms && r.sideBegins() {
		panic(api.Fault{Err: api.ErrLong, At: r.at})
	}
	r.comparisons++
	left := r.side()
	cmp := r.operator()
	return api.Mark{Op: api.MkCmp, Left: left, Cmp: cmp, Right: r.side()}
}

func (r *reader) sideBegins() bool {
	next := r.piece()
	return isVar(next) || next == `'` || next == `"`
}

func (r *reader) side() api.Side {
	r.blanks()
	if !r.sideBegins() {
		panic(r.wrong())
	}
	first := r.piece()
	r.at += len(first)
	if isVar(first) {
		return api.Side{Var: true, Text: first}
	}
	return api.Side{Text: r.quoted(first)}
}

// quoted reads a text behind its first quote.
func (r *reader) quoted(quote string) string {
	text, _, _ := strings.Cut(r.rest(), quote)
	end := printedEnd(text)
	r.at += end
	if end < len(text) || r.rest() == "" {
		panic(r.misfit())
	}
	r.at += len(quote)
	return text
}

// printedEnd is the place of a text's first byte that is not 32 to 126.
func printedEnd(s string) int {
	end := 0
	for end < len(s) && ' ' <= s[end] && s[end] <= '~' {
		end++
	}
	return end
}

// signs is the operators that are no words.
func signs() []string { return []string{"<=", "<", "!=", "===", "==", ">=", ">", "~="} }

func (r *reader) operator() string {
	r.blanks()
	if sign, ok := scan.Word(r.text, r.at, signs()); ok {
		r.at += len(sign)
		return sign
	}
	switch {
	case r.skip("in"):
		return "in"
	case r.skip("not"):
		// No letter follows a whole word: the in that may follow this one has a blank ahead.
		if r.skip("in") {
			return "not in"
		}
	case r.skip("="), r.skip("!"), r.skip("~"):
		// With these a sign begins: what is wrong is the byte behind.
		panic(r.misfit())
	}
	panic(r.wrong())
}
