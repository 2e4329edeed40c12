package rich_test

import (
	"slices"
	"strings"
	"testing"

	"dovetail/api"
	"dovetail/checks"
	"dovetail/rich"
	"dovetail/rpm"
)

// look is a text that is looked at, and the furthest place at which a byte was asked for: no text goes on with the byte there, if none of those that may stand there is it.
type look struct {
	text     string
	furthest int
}

// part is a part of a text: the places behind it, where it begins at a place.
type part func(l *look, at int) []int

func nothing(l *look, at int) []int { return []int{at} }

func byteOf(set string) part {
	return func(l *look, at int) []int {
		l.furthest = max(l.furthest, at)
		if at < len(l.text) && strings.IndexByte(set, l.text[at]) >= 0 {
			return []int{at + 1}
		}
		return nil
	}
}

func oneOf(parts ...part) part {
	return func(l *look, at int) []int {
		var ends []int
		for _, p := range parts {
			ends = append(ends, p(l, at)...)
		}
		slices.Sort(ends)
		return slices.Compact(ends)
	}
}

func row(parts ...part) part {
	return func(l *look, at int) []int {
		ends := []int{at}
		for _, p := range parts {
			var next []int
			for _, end := range ends {
				next = append(next, p(l, end)...)
			}
			slices.Sort(next)
			ends = slices.Compact(next)
		}
		return ends
	}
}

func literal(s string) part {
	var l []part
	for i := range len(s) {
		l = append(l, byteOf(s[i:i+1]))
	}
	return row(l...)
}

// later is a part that is told only later, so that parts can stand in themselves.
func later(p *part) part { return func(l *look, at int) []int { return (*p)(l, at) } }

func perhaps(p part) part { return oneOf(nothing, p) }

func some(p part) part {
	return func(l *look, at int) []int {
		var all []int
		for last := p(l, at); len(last) > 0; {
			all = append(all, last...)
			var next []int
			for _, end := range last {
				for _, n := range p(l, end) {
					if !slices.Contains(all, n) {
						next = append(next, n)
					}
				}
			}
			slices.Sort(next)
			last = slices.Compact(next)
		}
		return all
	}
}

// The oracle's probes stand where an operator may be looked for, and where an EVR may begin.
const (
	wordProbe = "\x01"
	evrProbe  = "\x02"
)

// bytesBetween is a row of bytes, without some.
func bytesBetween(low, high byte, but string) string {
	var l []byte
	for c := low; c <= high; c++ {
		if strings.IndexByte(but, c) < 0 {
			l = append(l, c)
		}
	}
	return string(l)
}

// grammar is the chapter's section 'The text' as parts, without its limits.
func grammar() part {
	blanks := some(byteOf(" \t"))
	var inName, operand part
	inName = perhaps(some(oneOf(byteOf(bytesBetween(33, 126, "()")), row(byteOf("("), later(&inName), byteOf(")")))))
	name := row(byteOf(bytesBetween(33, 126, "()<=>")), inName)
	versioned := some(byteOf("0123456789ABCDEFGHIJKLMNOPQRSTUVWXYZabcdefghijklmnopqrstuvwxyz._+~^"))
	evr := row(perhaps(row(some(byteOf("0123456789")), byteOf(":"))), versioned, perhaps(row(byteOf("-"), versioned)))
	comparison := oneOf(literal("<="), literal(">="), byteOf("<=>"))
	capability := row(name, perhaps(row(blanks, comparison, blanks, oneOf(evr, literal(evrProbe)))))
	within := func(p part) part { return row(p, perhaps(row(blanks, literal(wordProbe)))) }
	next := func(word string, p part) part { return row(blanks, literal(word), blanks, within(p)) }
	any := later(&operand)
	operand = oneOf(capability, row(
		byteOf("("),
		oneOf(
			row(within(any), oneOf(some(next("and", any)), some(next("or", any)), row(oneOf(next("if", any), next("unless", any)), perhaps(next("else", any))))),
			row(within(capability), oneOf(some(next("with", capability)), next("without", capability))),
		),
		perhaps(blanks),
		byteOf(")"),
	))
	return row(perhaps(blanks), any, perhaps(blanks))
}

type oracle struct{ grammar part }

func (o oracle) whole(s string) bool {
	return slices.Contains(o.grammar(&look{text: s}, 0), len(s))
}

// wrong is the first place from which on no dependency goes on with a text that is none.
func (o oracle) wrong(s string) int {
	l := &look{text: s}
	o.grammar(l, 0)
	return l.furthest
}

// goesOn tells whether a dependency begins with a text.
func (o oracle) goesOn(s string) bool { return o.wrong(s) == len(s) || o.whole(s) }

// token is what stands at a place, up to one of some bytes.
func token(s string, at int, ends string) string {
	if end := strings.IndexAny(s[at:], ends); end >= 0 {
		return s[at : at+end]
	}
	return s[at:]
}

// fault is what is wrong with a text, by the chapter's list of faults; limits are left to other tests.
func (o oracle) fault(s string) api.Fault {
	if o.whole(s) {
		return api.Fault{}
	}
	at := o.wrong(s)
	for start := range at + 1 {
		// Blanks stand ahead of EVRs and of operators.
		if start == 0 || s[start-1] != ' ' && s[start-1] != '\t' {
			continue
		}
		if o.goesOn(s[:start]+evrProbe) && o.badEvr(s, start) {
			return api.Fault{Err: version, At: start}
		}
		if f, ok := o.badWord(s, start); ok && start+len(token(s, start, " \t()")) >= at {
			return f
		}
	}
	switch {
	case at == len(s):
		return api.Fault{Err: short, At: at}
	case s[at] == '(' && o.goesOn(s[:at]+"z"):
		// A name may begin there, but no rich one.
		return api.Fault{Err: kind, At: at}
	}
	return api.Fault{Err: form, At: at}
}

// badEvr tells whether what stands where an EVR begins is something, but no EVR.
func (o oracle) badEvr(s string, start int) bool {
	ends := " \t"
	if o.goesOn(s[:start] + "1 " + wordProbe) {
		ends += ")"
	}
	evr := token(s, start, ends)
	_, f := rpm.Parse(evr)
	return evr != "" && f.Err != api.OK
}

// badWord tells of what stands where an operator is looked for what is wrong with it, if it is.
func (o oracle) badWord(s string, start int) (api.Fault, bool) {
	w := token(s, start, " \t()")
	switch {
	case w == "" || !o.goesOn(s[:start]+wordProbe) || o.goesOn(s[:start]+w+" "):
		return api.Fault{}, false
	case strings.IndexByte("<=>", w[0]) >= 0 && o.goesOn(s[:start+1]):
		// It is a comparison.
		return api.Fault{}, false
	}
	if first := o.richAhead(s[:start]); first >= 0 && (w == "with" || w == "without") && o.goesOn(s[:first]+"z "+w+" ") {
		return api.Fault{Err: kind, At: first}, true
	}
	return api.Fault{Err: word, At: start}, true
}

// richAhead is where the rich one begins with which a text ends, but for blanks; -1, if it ends otherwise.
func (o oracle) richAhead(s string) int {
	s = strings.TrimRight(s, " \t")
	for at := range len(s) {
		if s[at] == '(' && o.whole(s[at:]) {
			return at
		}
	}
	return -1
}

// samples is dependencies with all parts.
func samples() []string {
	return []string{
		"foo(x) >= 1:2-3 ",
		"(a = 1 or (b and c< < 2) or d)",
		"(a(x) with b with c > 1~)\t",
		"((a if b = 1) unless (c without d) else e )",
	}
}

// edited is a text with one byte left out, put in, or in another one's place.
func edited(s string) []string {
	const bytes = "a0A-: \t()<>=!~_,\x00\n\x7f\xff"
	var l []string
	for at := range len(s) + 1 {
		for i := range len(bytes) {
			l = append(l, s[:at]+bytes[i:i+1]+s[at:])
			if at < len(s) {
				l = append(l, s[:at]+bytes[i:i+1]+s[at+1:])
			}
		}
		if at < len(s) {
			l = append(l, s[:at]+s[at+1:], s[:at])
		}
	}
	return l
}

// everyDependency is all short rows of what dependencies are made of, behind some beginnings, and samples with each byte another one.
func everyDependency() []string {
	l := slices.Concat(
		checks.Rows([]string{"a", "(", ")", " ", "=", "1", "<", "\x7f"}, 4),
		checks.Rows([]string{"a", "(", ")", " ", " or ", " with ", "(a or b)", " = 1"}, 4),
	)
	for _, r := range checks.Rows([]string{"a", " ", "(", ")", "=", "1", "-", "or", "with"}, 3) {
		l = append(l, "a = "+r, "a "+r, "a("+r, "(a "+r, "(a = "+r, "(a = 1"+r, "(a or b"+r, "(a with "+r, "((a or b) "+r, "((a or b)"+r)
	}
	for _, r := range checks.Rows([]string{" and", " or", " if", " unless", " with", " without", " else", " x", " (b or c)", ")"}, 4) {
		l = append(l, "(a"+r)
	}
	for _, s := range samples() {
		l = append(l, edited(s)...)
	}
	return l
}

// plain is a dependency's text without the blanks that it can do without.
func plain(s string) string {
	return strings.ReplaceAll(strings.Join(strings.FieldsFunc(s, func(c rune) bool { return c == ' ' || c == '\t' }), " "), " )", ")")
}

// P13.1, P13.2 and P13.6, by their words.
func TestParseEverywhere(t *testing.T) {
	o, kinds := oracle{grammar()}, map[api.Errno]int{}
	for _, s := range everyDependency() {
		r, f := rich.Parse(s)
		if want := o.fault(s); f != want {
			t.Errorf("Parse(%q) = %+v, %v, not %v", s, r, f, want)
		}
		kinds[f.Err]++
		if f.Err != api.OK {
			if !zero(r) {
				t.Errorf("Parse(%q) = %+v, %v", s, r, f)
			}
			continue
		}
		if text := rich.Text(r); text != plain(s) || !rich.Fit(r) {
			t.Errorf("%q is read as %+v, which is written %q", s, r, text)
		}
	}
	for _, err := range []api.Errno{api.OK, form, short, word, version, kind} {
		if kinds[err] < 100 {
			t.Errorf("only %d texts of the kind %d", kinds[err], err)
		}
	}
}
