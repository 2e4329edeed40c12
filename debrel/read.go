package debrel

import (
	"dovetail/api"
	"dovetail/deb"
	"dovetail/faults"
)

// reader takes a relation token by token. At the first one that may not stand where it does it panics with its fault.
type reader struct {
	text   string
	groups [][]api.DebAlt
	// How many alternatives there are by now.
	count int
	// The terms in the brackets that are open, and the bracket that closes these.
	terms   []api.DebTerm
	closing string
	// What takes the next token.
	next func(token)
}

func read(s string) [][]api.DebAlt {
	if len(s) > api.MaxSpec {
		panic(api.Fault{Err: api.ErrLong, At: api.MaxSpec})
	}
	r := &reader{text: s}
	r.next = r.start
	for t := range tokens(s) {
		r.next(t)
	}
	return r.groups
}

// misfit is the fault where something else must stand at a place.
func (r *reader) misfit(at int) api.Fault {
	return api.Fault{Err: faults.Misfit(r.text, at), At: at}
}

// word is the text of a token that must be a name.
func (r *reader) word(t token, marks string, least int) string {
	end := wordEnd(t.text, marks)
	switch {
	case end > api.MaxName:
		panic(api.Fault{Err: api.ErrLong, At: t.at + api.MaxName})
	case end < len(t.text) || end < least:
		panic(r.misfit(t.at + end))
	}
	return t.text
}

// mustJoin asks that no blanks stand ahead of a token.
func (r *reader) mustJoin(t token) {
	if t.apart() {
		panic(r.misfit(t.blanksAt))
	}
}

// last is the alternative that is being read.
func (r *reader) last() *api.DebAlt {
	group := r.groups[len(r.groups)-1]
	return &group[len(group)-1]
}

func (r *reader) start(t token) {
	if t.text != "" {
		r.group(t)
	}
}

func (r *reader) group(t token) {
	r.groups = append(r.groups, nil)
	r.alternative(t)
}

func (r *reader) alternative(t token) {
	if r.count == api.MaxTerms && wordEnd(t.text, nameMarks) > 0 {
		panic(api.Fault{Err: api.ErrLong, At: t.at})
	}
	r.count++
	group := &r.groups[len(r.groups)-1]
	*group = append(*group, api.DebAlt{Name: r.word(t, nameMarks, leastName)})
	r.next = r.behindName
}

func (r *reader) behindName(t token) {
	if t.text == ":" && !t.apart() {
		r.next = r.arch
	} else {
		r.behindArch(t)
	}
}

func (r *reader) arch(t token) {
	r.mustJoin(t)
	r.last().Arch = r.word(t, archMarks, leastArch)
	r.next = r.behindArch
}

func (r *reader) behindArch(t token) {
	if t.text == "(" {
		r.next = r.operator
	} else {
		r.behindVersion(t)
	}
}

func (r *reader) operator(t token) {
	switch {
	case t.text == "<" || t.text == ">":
		// With these an operator begins: what is wrong is the byte behind.
		panic(r.misfit(t.end()))
	case !isOperator(t.text):
		panic(r.misfit(t.at))
	}
	r.last().Op = t.text
	r.next = r.version
}

func (r *reader) version(t token) {
	// Where there is none, the token is a ")" or the text's end: deb tells of these too what is wrong.
	if _, f := deb.Parse(t.text); f.Err != api.OK {
		panic(api.Fault{Err: f.Err, At: t.at + f.At})
	}
	r.last().Ver = t.text
	r.next = r.closeVersion
}

func (r *reader) closeVersion(t token) {
	if t.text != ")" {
		panic(r.misfit(t.at))
	}
	r.next = r.behindVersion
}

func (r *reader) behindVersion(t token) {
	if t.text == "[" {
		r.openTerms("]")
	} else {
		r.behindArchs(t)
	}
}

func (r *reader) behindArchs(t token) {
	switch t.text {
	case "<":
		r.openTerms(">")
	case "|":
		r.next = r.alternative
	case ",":
		r.next = r.group
	case "":
		// No token comes behind this one.
	default:
		panic(r.misfit(t.at))
	}
}

func (r *reader) openTerms(closing string) {
	r.terms, r.closing = nil, closing
	r.next = r.term
}

func (r *reader) term(t token) {
	not := t.text == "!"
	switch {
	case r.closing == "]" && len(r.terms) > 0 && r.terms[0].Not != not:
		// Of architectures the first term says what the others must be.
		panic(r.misfit(t.at))
	case not:
		r.next = r.behindNot
	default:
		r.addTerm(t, false)
	}
}

func (r *reader) behindNot(t token) {
	r.mustJoin(t)
	r.addTerm(t, true)
}

func (r *reader) addTerm(t token, not bool) {
	r.terms = append(r.terms, api.DebTerm{Not: not, Name: r.word(t, archMarks, leastArch)})
	r.next = r.behindTerm
}

func (r *reader) behindTerm(t token) {
	switch {
	case t.text == r.closing:
		r.closeTerms()
	case !t.apart():
		panic(r.misfit(t.at))
	default:
		r.term(t)
	}
}

func (r *reader) closeTerms() {
	a := r.last()
	if r.closing == "]" {
		a.Archs = r.terms
	} else {
		a.Profs = append(a.Profs, r.terms)
	}
	r.next = r.behindArchs
}
