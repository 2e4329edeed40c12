package rich

import (
	"strings"

	"dovetail/api"
	"dovetail/faults"
	"dovetail/rpm"
	"dovetail/scan"
)

const (
	blanks      = " \t"
	parentheses = "()"
	comparing   = "<=>"
)

// unknown is the kind of a rich one of which no operator is read yet.
const unknown = 0

func comparisons() []string { return []string{"<", "<=", "=", ">=", ">"} }

// wordAhead is the operator ahead of an operand of a kind, by its place, the first one's being 0; nothing where there is none.
func wordAhead(op, place int) string {
	switch op {
	case api.RiAnd:
		return "and"
	case api.RiOr:
		return "or"
	case api.RiWith:
		return "with"
	case api.RiWithout:
		return wordAt(place, "without", "")
	case api.RiIf:
		return wordAt(place, "if", "else")
	case api.RiUnless:
		return wordAt(place, "unless", "else")
	}
	return ""
}

func wordAt(place int, second, third string) string {
	switch place {
	case 1:
		return second
	case 2:
		return third
	}
	return ""
}

// asksOnePackage tells whether a kind's operands are capabilities alone, which one package is asked for.
func asksOnePackage(op int) bool { return op == api.RiWith || op == api.RiWithout }

// reader goes over a text, part by part. At the first part that is wrong it panics with its fault, so that no part need ask how those within it went.
type reader struct {
	text string
	at   int
	// How many capabilities have begun by now, and how many rich ones are open.
	capabilities, depth int
}

func read(s string) api.Rich {
	r := &reader{text: s}
	if len(s) > api.MaxSpec {
		r.fail(api.ErrLong, api.MaxSpec)
	}
	r.skipBlanks()
	d := r.operand(unknown)
	r.skipBlanks()
	if r.rest() != "" {
		r.misfit()
	}
	return d
}

func (r *reader) fail(err api.Errno, at int) { panic(api.Fault{Err: err, At: at}) }

// misfit fails where something else must stand next.
func (r *reader) misfit() { r.fail(faults.Misfit(r.text, r.at), r.at) }

func (r *reader) rest() string { return r.text[r.at:] }

// skipBlanks passes blanks over, and tells whether there were any.
func (r *reader) skipBlanks() bool {
	start := r.at
	r.at = scan.Run(r.text, start, api.CsBlank)
	return r.at > start
}

func (r *reader) mustSkipBlanks() {
	if !r.skipBlanks() {
		r.misfit()
	}
}

// upTo is what stands next, ahead of the first of some bytes.
func (r *reader) upTo(ends string) string {
	rest := r.rest()
	if end := strings.IndexAny(rest, ends); end >= 0 {
		return rest[:end]
	}
	return rest
}

// operand reads an operand of a kind, or a whole dependency.
func (r *reader) operand(op int) api.Rich {
	switch {
	case !strings.HasPrefix(r.rest(), "("):
		return r.capability()
	case r.depth == api.MaxDepth:
		r.fail(api.ErrDeep, r.at)
	case asksOnePackage(op):
		r.fail(api.ErrType, r.at)
	}
	return r.rich()
}

// rich reads a rich one, whose ( stands next.
func (r *reader) rich() api.Rich {
	r.depth++
	r.at += len("(")
	start := r.at
	d := api.Rich{Subs: []api.Rich{r.operand(unknown)}}
	for r.goesOn(d) {
		d.Op = r.operator(d)
		// What its first operand may be shows only here.
		if asksOnePackage(d.Op) && d.Subs[0].Op != api.RiCap {
			r.fail(api.ErrType, start)
		}
		r.mustSkipBlanks()
		d.Subs = append(d.Subs, r.operand(d.Op))
	}
	r.at += len(")")
	r.depth--
	return d
}

// goesOn tells whether a rich one goes on with an operator behind the operands that it has, or ends.
func (r *reader) goesOn(d api.Rich) bool {
	apart := r.skipBlanks()
	if len(d.Subs) > 1 && strings.HasPrefix(r.rest(), ")") {
		return false
	}
	if !apart || r.word() == "" {
		r.misfit()
	}
	return true
}

// word is the word that stands next, where an operator must.
func (r *reader) word() string { return r.upTo(blanks + parentheses) }

// operator reads the operator behind the operands that a rich one has, and tells of which kind that is then.
func (r *reader) operator(d api.Rich) int {
	word := r.word()
	for op := range api.NumRis {
		if (d.Op == unknown || d.Op == op) && wordAhead(op, len(d.Subs)) == word {
			r.at += len(word)
			return op
		}
	}
	r.fail(api.ErrWord, r.at)
	return unknown
}

func (r *reader) capability() api.Rich {
	if r.capabilities == api.MaxTerms && r.rest() != "" {
		r.fail(api.ErrLong, r.at)
	}
	r.capabilities++
	d := api.Rich{Op: api.RiCap, Name: r.name()}
	if d.Cmp = r.comparison(); d.Cmp != "" {
		r.mustSkipBlanks()
		d.Evr = r.evr()
	}
	return d
}

func (r *reader) name() string {
	rest := r.rest()
	end, open := nameEnd(rest)
	if end > api.MaxName {
		r.fail(api.ErrLong, r.at+api.MaxName)
	}
	r.at += end
	if end == 0 || open > 0 {
		r.misfit()
	}
	return rest[:end]
}

// nameEnd is the place behind the name with which a text begins, and how many ( of it are not closed. It is not asked of what begins with a (, a rich one.
func nameEnd(s string) (end, open int) {
	for end < len(s) && isNamed(s[end]) {
		switch c := s[end]; {
		case end == 0 && strings.IndexByte(comparing, c) >= 0, c == ')' && open == 0:
			return end, open
		case c == '(':
			open++
		case c == ')':
			open--
		}
		end++
	}
	return end, open
}

// isNamed tells whether a byte is one of those that names are made of.
func isNamed(c byte) bool { return '!' <= c && c <= '~' }

// comparison reads blanks and a comparison, if both stand next.
func (r *reader) comparison() string {
	// Ahead of it blanks stand: else it would belong to the name.
	at := scan.Run(r.text, r.at, api.CsBlank)
	cmp, ok := scan.Word(r.text, at, comparisons())
	if ok {
		r.at = at + len(cmp)
	}
	return cmp
}

func (r *reader) evr() string {
	ends := blanks
	if r.depth > 0 {
		ends += ")"
	}
	evr := r.upTo(ends)
	if evr == "" {
		r.misfit()
	}
	if _, f := rpm.Parse(evr); f.Err != api.OK {
		r.fail(api.ErrVersion, r.at)
	}
	r.at += len(evr)
	return evr
}
