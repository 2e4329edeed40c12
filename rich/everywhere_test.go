package rich_test

import (
	"slices"
	"strings"
	"testing"

	"dovetail/api"
	"dovetail/checks"
	"dovetail/rich"
	"dovetail/rpm"
)

// The oracle's probes stand where an operator may be looked for, and where an EVR may begin.
const (
	wordProbe = "\x01"
	evrProbe  = "\x02"
)

// grammar is the chapter's section 'The text' as parts, without its limits.
func grammar() checks.Part {
	byteOf, literal, row, oneOf := checks.ByteOf, checks.Literal, checks.Row, checks.OneOf
	some, perhaps, later := checks.Some, checks.Perhaps, checks.Later
	blanks := some(byteOf(" \t"))
	var inName, operand checks.Part
	inName = perhaps(some(oneOf(byteOf(checks.Bytes(33, 126, "()")), row(byteOf("("), later(&inName), byteOf(")")))))
	name := row(byteOf(checks.Bytes(33, 126, "()<=>")), inName)
	versioned := some(byteOf("0123456789ABCDEFGHIJKLMNOPQRSTUVWXYZabcdefghijklmnopqrstuvwxyz._+~^"))
	evr := row(perhaps(row(some(byteOf("0123456789")), byteOf(":"))), versioned, perhaps(row(byteOf("-"), versioned)))
	comparison := oneOf(literal("<="), literal(">="), byteOf("<=>"))
	capability := row(name, perhaps(row(blanks, comparison, blanks, oneOf(evr, literal(evrProbe)))))
	within := func(p checks.Part) checks.Part { return row(p, perhaps(row(blanks, literal(wordProbe)))) }
	next := func(word string, p checks.Part) checks.Part { return row(blanks, literal(word), blanks, within(p)) }
	any := later(&operand)
	operand = oneOf(capability, row(
		byteOf("("),
		oneOf(
			row(within(any), oneOf(some(next("and", any)), some(next("or", any)), row(oneOf(next("if", any), next("unless", any)), perhaps(next("else", any))))),
			row(within(capability), oneOf(some(next("with", capability)), next("without", capability))),
		),
		perhaps(blanks),
		byteOf(")"),
	))
	return row(perhaps(blanks), any, perhaps(blanks))
}

type oracle struct{ grammar checks.Part }

// token is what stands at a place, up to one of some bytes.
func token(s string, at int, ends string) string {
	if end := strings.IndexAny(s[at:], ends); end >= 0 {
		return s[at : at+end]
	}
	return s[at:]
}

// fault is what is wrong with a text, by the chapter's list of faults; limits are left to other tests.
func (o oracle) fault(s string) api.Fault {
	if o.grammar.Whole(s) {
		return api.Fault{}
	}
	at := o.grammar.Wrong(s)
	for start := range at + 1 {
		// Blanks stand ahead of EVRs and of operators.
		if start == 0 || s[start-1] != ' ' && s[start-1] != '\t' {
			continue
		}
		if o.grammar.GoesOn(s[:start]+evrProbe) && o.badEvr(s, start) {
			return api.Fault{Err: version, At: start}
		}
		if f, ok := o.badWord(s, start); ok && start+len(token(s, start, " \t()")) >= at {
			return f
		}
	}
	switch {
	case at == len(s):
		return api.Fault{Err: short, At: at}
	case s[at] == '(' && o.grammar.GoesOn(s[:at]+"z"):
		// A name may begin there, but no rich one.
		return api.Fault{Err: kind, At: at}
	}
	return api.Fault{Err: form, At: at}
}

// badEvr tells whether what stands where an EVR begins is something, but no EVR.
func (o oracle) badEvr(s string, start int) bool {
	ends := " \t"
	if o.grammar.GoesOn(s[:start] + "1 " + wordProbe) {
		ends += ")"
	}
	evr := token(s, start, ends)
	_, f := rpm.Parse(evr)
	return evr != "" && f.Err != api.OK
}

// badWord tells of what stands where an operator is looked for what is wrong with it, if it is.
func (o oracle) badWord(s string, start int) (api.Fault, bool) {
	w := token(s, start, " \t()")
	switch {
	case w == "" || !o.grammar.GoesOn(s[:start]+wordProbe) || o.grammar.GoesOn(s[:start]+w+" "):
		return api.Fault{}, false
	case strings.IndexByte("<=>", w[0]) >= 0 && o.grammar.GoesOn(s[:start+1]):
		// It is a comparison.
		return api.Fault{}, false
	}
	if first := o.richAhead(s[:start]); first >= 0 && (w == "with" || w == "without") && o.grammar.GoesOn(s[:first]+"z "+w+" ") {
		return api.Fault{Err: kind, At: first}, true
	}
	return api.Fault{Err: word, At: start}, true
}

// richAhead is where the rich one begins with which a text ends, but for blanks; -1, if it ends otherwise.
func (o oracle) richAhead(s string) int {
	s = strings.TrimRight(s, " \t")
	for at := range len(s) {
		if s[at] == '(' && o.grammar.Whole(s[at:]) {
			return at
		}
	}
	return -1
}

// samples is dependencies with all parts.
func samples() []string {
	return []string{
		"foo(x) >= 1:2-3 ",
		"(a = 1 or (b and c< < 2) or d)",
		"(a(x) with b with c > 1~)\t",
		"((a if b = 1) unless (c without d) else e )",
	}
}

// everyDependency is all short rows of what dependencies are made of, behind some beginnings, and samples with each byte another one.
func everyDependency() []string {
	l := slices.Concat(
		checks.Rows([]string{"a", "(", ")", " ", "=", "1", "<", "\x7f"}, 4),
		checks.Rows([]string{"a", "(", ")", " ", " or ", " with ", "(a or b)", " = 1"}, 4),
	)
	for _, r := range checks.Rows([]string{"a", " ", "(", ")", "=", "1", "-", "or", "with"}, 3) {
		l = append(l, "a = "+r, "a "+r, "a("+r, "(a "+r, "(a = "+r, "(a = 1"+r, "(a or b"+r, "(a with "+r, "((a or b) "+r, "((a or b)"+r)
	}
	for _, r := range checks.Rows([]string{" and", " or", " if", " unless", " with", " without", " else", " x", " (b or c)", ")"}, 4) {
		l = append(l, "(a"+r)
	}
	for _, s := range samples() {
		l = append(l, checks.Edited(s, "a0A-: \t()<>=!~_,\x00\n\x7f\xff")...)
	}
	return l
}

// plain is a dependency's text without the blanks that it can do without.
func plain(s string) string {
	return strings.ReplaceAll(strings.Join(strings.FieldsFunc(s, func(c rune) bool { return c == ' ' || c == '\t' }), " "), " )", ")")
}

// P13.1, P13.2 and P13.6, by their words.
func TestParseEverywhere(t *testing.T) {
	o, kinds := oracle{grammar()}, map[api.Errno]int{}
	for _, s := range everyDependency() {
		r, f := rich.Parse(s)
		if want := o.fault(s); f != want {
			t.Errorf("Parse(%q) = %+v, %v, not %v", s, r, f, want)
		}
		kinds[f.Err]++
		if f.Err != api.OK {
			if !zero(r) {
				t.Errorf("Parse(%q) = %+v, %v", s, r, f)
			}
			continue
		}
		if text := rich.Text(r); text != plain(s) || !rich.Fit(r) {
			t.Errorf("%q is read as %+v, which is written %q", s, r, text)
		}
	}
	for _, err := range []api.Errno{api.OK, form, short, word, version, kind} {
		if kinds[err] < 100 {
			t.Errorf("only %d texts of the kind %d", kinds[err], err)
		}
	}
}
