package rich

import (
	"strings"

	"dovetail/api"
	"dovetail/faults"
	"dovetail/rpm"
	"dovetail/scan"
)

const (
	blanks      = " \t"
	parentheses = "()"
	comparing   = "<=>"
)

// unknown is the kind of a rich one of which no operator is read yet.
const unknown = 0

func comparisons() []string { return []string{"<", "<=", "=", ">=", ">"} }

// wordAhead is the operator ahead of an operand of a kind, by its place, the first one's being 0; nothing where there is none.
func wordAhead(op, place int) string {
	switch op {
	case api.RiAnd:
		return "and"
	case api.RiOr:
		return "or"
	case api.RiWith:
		return "with"
	case api.RiWithout:
		return wordAt(place, "without", "")
	case api.RiIf:
		return wordAt(place, "if", "else")
	case api.RiUnless:
		return wordAt(place, "unless", "else")
	}
	return ""
}

func wordAt(place int, second, third string) string {
	switch place {
	case 1:
		return second
	case 2:
		return third
	}
	return ""
}

// asksOnePackage tells whether a kind's operands are capabilities alone, which one package is asked for.
func asksOnePackage(op int) bool { return op == api.RiWith || op == api.RiWithout }

// reader goes over a text, part by part.
type reader struct {
	faults.Reader
	// How many capabilities have begun by now, and how many rich ones are open.
	capabilities, depth int
}

func read(s string) api.Rich {
	r := &reader{Reader: faults.Reader{Text: s}}
	if len(s) > api.MaxSpec {
		r.Fail(api.ErrLong, api.MaxSpec)
	}
	r.skipBlanks()
	d := r.operand(unknown)
	r.skipBlanks()
	if !r.Ended() {
		r.Misfit()
	}
	return d
}

// skipBlanks passes blanks over, and tells whether there were any.
func (r *reader) skipBlanks() bool {
	start := r.At
	r.At = scan.Run(r.Text, start, api.CsBlank)
	return r.At > start
}

func (r *reader) mustSkipBlanks() {
	if !r.skipBlanks() {
		r.Misfit()
	}
}

// aheadOf is what stands next, ahead of the first of some bytes.
func (r *reader) aheadOf(ends string) string {
	rest := r.Rest()
	if end := strings.IndexAny(rest, ends); end >= 0 {
		return rest[:end]
	}
	return rest
}

// operand reads an operand of a kind, or a whole dependency.
func (r *reader) operand(op int) api.Rich {
	switch {
	case !r.Begins("("):
		return r.capability()
	case r.depth == api.MaxDepth:
		r.Fail(api.ErrDeep, r.At)
	case asksOnePackage(op):
		r.Fail(api.ErrType, r.At)
	}
	return r.rich()
}

// rich reads a rich one, whose ( stands next.
func (r *reader) rich() api.Rich {
	r.depth++
	r.At += len("(")
	start := r.At
	d := api.Rich{Subs: []api.Rich{r.operand(unknown)}}
	for r.goesOn(d) {
		d.Op = r.operator(d)
		// What its first operand may be shows only here.
		if asksOnePackage(d.Op) && d.Subs[0].Op != api.RiCap {
			r.Fail(api.ErrType, start)
		}
		r.mustSkipBlanks()
		d.Subs = append(d.Subs, r.operand(d.Op))
	}
	r.At += len(")")
	r.depth--
	return d
}

// goesOn tells whether a rich one goes on with an operator behind the operands that it has, or ends.
func (r *reader) goesOn(d api.Rich) bool {
	apart := r.skipBlanks()
	if len(d.Subs) > 1 && r.Begins(")") {
		return false
	}
	if !apart || r.word() == "" {
		r.Misfit()
	}
	return true
}

// word is the word that stands next, where an operator must.
func (r *reader) word() string { return r.aheadOf(blanks + parentheses) }

// operator reads the operator behind the operands that a rich one has, and tells of which kind that is then.
func (r *reader) operator(d api.Rich) int {
	word := r.word()
	for op := range api.NumRis {
		if (d.Op == unknown || d.Op == op) && wordAhead(op, len(d.Subs)) == word {
			r.At += len(word)
			return op
		}
	}
	r.Fail(api.ErrWord, r.At)
	return unknown
}

func (r *reader) capability() api.Rich {
	if r.capabilities == api.MaxTerms && !r.Ended() {
		r.Fail(api.ErrLong, r.At)
	}
	r.capabilities++
	d := api.Rich{Op: api.RiCap, Name: r.name()}
	if d.Cmp = r.comparison(); d.Cmp != "" {
		r.mustSkipBlanks()
		d.Evr = r.evr()
	}
	return d
}

func (r *reader) name() string {
	rest := r.Rest()
	end, open := nameEnd(rest)
	if end > api.MaxName {
		r.Fail(api.ErrLong, r.At+api.MaxName)
	}
	r.At += end
	if end == 0 || open > 0 {
		r.Misfit()
	}
	return rest[:end]
}

// nameEnd is the place behind the name with which a text begins, and how many ( of it are not closed. It is not asked of what begins with a (, a rich one.
func nameEnd(s string) (end, open int) {
	for end < len(s) && isNamed(s[end]) {
		switch c := s[end]; {
		case end == 0 && strings.IndexByte(comparing, c) >= 0, c == ')' && open == 0:
			return end, open
		case c == '(':
			open++
		case c == ')':
			open--
		}
		end++
	}
	return end, open
}

// isNamed tells whether a byte is one of those that names are made of.
func isNamed(c byte) bool { return '!' <= c && c <= '~' }

// comparison reads blanks and a comparison, if both stand next.
func (r *reader) comparison() string {
	// Ahead of it blanks stand: else it would belong to the name.
	at := scan.Run(r.Text, r.At, api.CsBlank)
	cmp, ok := scan.Word(r.Text, at, comparisons())
	if ok {
		r.At = at + len(cmp)
	}
	return cmp
}

func (r *reader) evr() string {
	ends := blanks
	if r.depth > 0 {
		ends += ")"
	}
	evr := r.aheadOf(ends)
	if evr == "" {
		r.Misfit()
	}
	if _, f := rpm.Parse(evr); f.Err != api.OK {
		r.Fail(api.ErrVersion, r.At)
	}
	r.At += len(evr)
	return evr
}
