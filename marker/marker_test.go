package marker_test

import (
	"regexp"
	"slices"
	"strings"
	"testing"

	"dovetail/api"
	"dovetail/checks"
	"dovetail/marker"
)

const (
	form  = api.ErrForm
	short = api.ErrShort
	long  = api.ErrLong
	deep  = api.ErrDeep
	word  = api.ErrWord
	name  = api.ErrName
	twice = api.ErrTwice
)

func variable(s string) api.Side { return api.Side{Var: true, Text: s} }

func text(s string) api.Side { return api.Side{Text: s} }

func comp(left api.Side, cmp string, right api.Side) api.Mark {
	return api.Mark{Op: api.MkCmp, Left: left, Cmp: cmp, Right: right}
}

// is is what "os_name == 's'" is read as.
func is(s string) api.Mark { return comp(variable("os_name"), "==", text(s)) }

func and(l ...api.Mark) api.Mark { return api.Mark{Op: api.MkAnd, Subs: l} }

func or(l ...api.Mark) api.Mark { return api.Mark{Op: api.MkOr, Subs: l} }

func same(a, b api.Mark) bool {
	return a.Op == b.Op && a.Left == b.Left && a.Cmp == b.Cmp && a.Right == b.Right && slices.EqualFunc(a.Subs, b.Subs, same)
}

// copied is a marker with lists of its own.
func copied(m api.Mark) api.Mark {
	m.Subs = slices.Clone(m.Subs)
	for i, sub := range m.Subs {
		m.Subs[i] = copied(sub)
	}
	return m
}

// operators is all comparisons.
func operators() []string {
	return []string{"<=", "<", "!=", "===", "==", ">=", ">", "~=", "in", "not in"}
}

// says checks what a marker's text is read as, alone and in a requirement.
func says(t *testing.T, s string, want api.Mark) {
	t.Helper()
	if m, f := marker.Marker(s); f != (api.Fault{}) || !same(m, want) || !marker.Fit(m) {
		t.Errorf("Marker(%q) = %+v, %v, not %+v", s, m, f, want)
	}
	if q, f := marker.Parse("a;" + s); len(s) < 255 && (f != (api.Fault{}) || !q.HasMark || !same(q.Mark, want)) {
		t.Errorf("Parse(%q) = %+v, %v, not %+v", "a;"+s, q, f, want)
	}
}

// goesWrong checks where markers' texts go wrong, alone and in a requirement.
func goesWrong(t *testing.T, wanted map[string]api.Fault) {
	t.Helper()
	for s, want := range wanted {
		if m, f := marker.Marker(s); f != want || !same(m, api.Mark{}) {
			t.Errorf("Marker(%q) = %+v, %v, not %v", s, m, f, want)
		}
		if len(s) > 250 {
			continue
		}
		want.At += len("a>1 ;")
		if q, f := marker.Parse("a>1 ;" + s); f != want || !sameReq(q, api.Pyreq{}) {
			t.Errorf("Parse(%q) = %+v, %v, not %v", "a>1 ;"+s, q, f, want)
		}
	}
}

// P11.1: each comparison, with sides of each kind, with blanks and without.
func TestComparisons(t *testing.T) {
	for _, v := range variables() {
		for _, op := range operators() {
			for _, b := range []string{" ", "\t", " \t  "} {
				between := strings.ReplaceAll(op, " ", b)
				says(t, v+b+between+b+"'1.0'", comp(variable(v), op, text("1.0")))
				says(t, b+`"1.0"`+b+between+b+v+b, comp(text("1.0"), op, variable(v)))
				says(t, "'x'"+between+`"y"`, comp(text("x"), op, text("y")))
				says(t, "''"+between+"''", comp(text(""), op, text("")))
				says(t, "extra"+b+between+b+v, comp(variable("extra"), op, variable(v)))
			}
		}
	}
	says(t, "os_name=='x'", is("x"))
	says(t, "os_name<os_name", comp(variable("os_name"), "<", variable("os_name")))
	says(t, "os_name in'x'", comp(variable("os_name"), "in", text("x")))
	says(t, "'x'in os_name", comp(text("x"), "in", variable("os_name")))
	says(t, "'x'not\tin'y'", comp(text("x"), "not in", text("y")))
}

// P11.1: signs that are none, and what is left behind the longest one.
func TestSigns(t *testing.T) {
	goesWrong(t, map[string]api.Fault{
		"''=''": {Err: form, At: 3}, "''= =''": {Err: form, At: 3}, "''!''": {Err: form, At: 3}, "''~''": {Err: form, At: 3}, "''! =''": {Err: form, At: 3}, "''~>''": {Err: form, At: 3}, "''=<''": {Err: form, At: 3}, "''=>''": {Err: form, At: 3}, "''=~''": {Err: form, At: 3}, "''!<''": {Err: form, At: 3}, "''!!=''": {Err: form, At: 3}, "'' =x": {Err: form, At: 4}, "''=in''": {Err: form, At: 3}, "''!not in''": {Err: form, At: 3}, "''~os_name": {Err: form, At: 3}, "''=(": {Err: form, At: 3},
		"''====''": {Err: form, At: 5}, "''<==''": {Err: form, At: 4}, "''>==''": {Err: form, At: 4}, "''!==''": {Err: form, At: 4}, "''~==''": {Err: form, At: 4}, "''<>''": {Err: form, At: 3}, "''<<''": {Err: form, At: 3}, "''><''": {Err: form, At: 3}, "''>>''": {Err: form, At: 3}, "''< =''": {Err: form, At: 4}, "''== =''": {Err: form, At: 5}, "''<~''": {Err: form, At: 3}, "''=== =''": {Err: form, At: 6},
		"''^''": {Err: form, At: 2}, "''&''": {Err: form, At: 2}, "'',''": {Err: form, At: 2}, "'';''": {Err: form, At: 2}, "''(''": {Err: form, At: 2}, "'')": {Err: form, At: 2}, "''''": {Err: form, At: 2}, `''""`: {Err: form, At: 2}, "'' 'x'": {Err: form, At: 3}, "''1": {Err: form, At: 2}, "''IN''": {Err: form, At: 2}, "''\n<''": {Err: form, At: 2}, "''\xff": {Err: form, At: 2}, "''\x00": {Err: form, At: 2},
		"''=": {Err: short, At: 3}, "''!": {Err: short, At: 3}, "''~": {Err: short, At: 3}, "''= ": {Err: form, At: 3}, "''~\t": {Err: form, At: 3},
		"'' not 'x'": {Err: form, At: 7}, "''not''": {Err: form, At: 5}, "''not<''": {Err: form, At: 5}, "''not(": {Err: form, At: 5}, "'' not\tIN ''": {Err: form, At: 7}, "''not 1": {Err: form, At: 6}, "''not": {Err: short, At: 5}, "''not ": {Err: short, At: 6}, "''not \t": {Err: short, At: 7},
	})
}

// P11.1: words that are none at each place where one may stand, and such as stand at another place.
func TestWords(t *testing.T) {
	for _, w := range []string{"foo", "x", "_", "_in", "os_nam", "os_name_", "os_namex", "_os_name", "osname", "notin", "inn", "ands", "andor", "orand", "os", "name", "python", "python_versio", "platform", "extras", "implementation", "i", "a", "o", "n"} {
		goesWrong(t, map[string]api.Fault{
			w: {Err: word, At: 0}, " " + w + " < 'x'": {Err: word, At: 1}, "(" + w: {Err: word, At: 1}, "((\t" + w + "))": {Err: word, At: 3}, w + "(": {Err: word, At: 0}, w + "1": {Err: word, At: 0}, w + "X": {Err: word, At: 0}, w + "'": {Err: word, At: 0}, w + "\xff": {Err: word, At: 0}, w + ".x": {Err: word, At: 0},
			"'x' " + w + " 'y'": {Err: word, At: 4}, "'x'" + w + "'y'": {Err: word, At: 3}, "os_name " + w: {Err: word, At: 8}, "os_name\t" + w + "1": {Err: word, At: 8},
			"'x' not " + w + " 'y'": {Err: word, At: 8}, "'x'not\t" + w: {Err: word, At: 7},
			"'x' < " + w: {Err: word, At: 6}, "'x'==" + w + ")": {Err: word, At: 5}, "'x' in " + w + " ": {Err: word, At: 7}, "'x' not in " + w: {Err: word, At: 11},
			"'x' < 'y' " + w: {Err: word, At: 10}, "'x'<'y'" + w: {Err: word, At: 7}, "('x'<'y'" + w + ")": {Err: word, At: 8}, "('x'<'y')" + w: {Err: word, At: 9}, "'x'<os_name " + w: {Err: word, At: 12}, "('x'<'y' and 'x'<'y' " + w: {Err: word, At: 21},
			"'x'<'y' and " + w: {Err: word, At: 12}, "'x'<'y' or " + w + "<'x'": {Err: word, At: 11}, "'x'<'y'and(" + w: {Err: word, At: 11},
		})
	}
	goesWrong(t, map[string]api.Fault{
		"and": {Err: word, At: 0}, "or": {Err: word, At: 0}, "in": {Err: word, At: 0}, "not": {Err: word, At: 0}, "not 'x' < 'y'": {Err: word, At: 0}, "( and": {Err: word, At: 2},
		"'x' and 'y'": {Err: word, At: 4}, "'x' or": {Err: word, At: 4}, "os_name os_name": {Err: word, At: 8}, "'x' extra": {Err: word, At: 4},
		"'x' not not": {Err: word, At: 8}, "'x' not and": {Err: word, At: 8}, "'x' not os_name": {Err: word, At: 8}, "'x' in in": {Err: word, At: 7}, "'x' in not in 'y'": {Err: word, At: 7}, "'x' not in not": {Err: word, At: 11}, "'x' < and": {Err: word, At: 6}, "'x' < not in": {Err: word, At: 6},
		"'x'<'y' in": {Err: word, At: 8}, "'x'<'y' not in": {Err: word, At: 8}, "'x'<'y' os_name": {Err: word, At: 8}, "'x'<'y'extra": {Err: word, At: 7}, "'x'<'y' and or": {Err: word, At: 12}, "'x'<'y' or and": {Err: word, At: 11}, "'x'<'y' and not": {Err: word, At: 12}, "('x'<'y' in": {Err: word, At: 9}, "'x'<'y' and and": {Err: word, At: 12},
	})
}

// P11.1: words that run into what follows them.
func TestBehindWords(t *testing.T) {
	goesWrong(t, map[string]api.Fault{
		"os_name2 < 'x'": {Err: form, At: 7}, "os_nameX": {Err: form, At: 7}, "os_name.x": {Err: form, At: 7}, "os_name-x": {Err: form, At: 7}, "os_name\n<'x'": {Err: form, At: 7}, "os_name\xff": {Err: form, At: 7}, "os_name,": {Err: form, At: 7}, "os_name;": {Err: form, At: 7}, "os_name(": {Err: form, At: 7}, "os_name)": {Err: form, At: 7}, "os_name'x'": {Err: form, At: 7},
		"'x' in2": {Err: form, At: 6}, "'x' inX": {Err: form, At: 6}, "'x' in(": {Err: form, At: 6}, "'x' in<": {Err: form, At: 6}, "'x' not in9": {Err: form, At: 10}, "'x' not9 in": {Err: form, At: 7}, "'x' in-'y'": {Err: form, At: 6},
		"'x'<os_name2": {Err: form, At: 11}, "'x'<os_name<": {Err: form, At: 11}, "'x'<os_name'": {Err: form, At: 11}, "'x'<os_name(": {Err: form, At: 11}, "'x'<os_name)": {Err: form, At: 11}, "'x'<extra.": {Err: form, At: 9},
		"'x'<'y' and2": {Err: form, At: 11}, "'x'<'y' andX": {Err: form, At: 11}, "'x'<'y' or)": {Err: form, At: 10}, "'x'<'y' or<": {Err: form, At: 10}, "'x'<'y' or,": {Err: form, At: 10},
	})
	says(t, "os_name=='x'and(os_name=='y')or'a'in'b'", or(and(is("x"), is("y")), comp(text("a"), "in", text("b"))))
	says(t, "('a'in os_name)and\t'b'not in os_name", and(comp(text("a"), "in", variable("os_name")), comp(text("b"), "not in", variable("os_name"))))
	says(t, `(extra<extra)or(extra>"")`, or(comp(variable("extra"), "<", variable("extra")), comp(variable("extra"), ">", text(""))))
}

// P11.1: texts between quotes.
func TestQuotes(t *testing.T) {
	var printed []byte
	for c := byte(32); c < 127; c++ {
		printed = append(printed, c)
	}
	for _, quote := range []string{"'", `"`} {
		all := strings.ReplaceAll(string(printed), quote, "")
		for _, s := range []string{"", " ", "  ", "x", " ~", "\x20\x7e", "and", "(", `\`, `\\`, all, strings.Repeat("x", 244)} {
			says(t, "os_name=="+quote+s+quote, is(s))
		}
		other := strings.ReplaceAll(`'"`, quote, "")
		for _, s := range []string{other, other + other, "a" + other + "b", other + " or " + other} {
			says(t, "os_name=="+quote+s+quote, is(s))
			says(t, quote+s+quote+"in"+quote+s+s+quote, comp(text(s), "in", text(s+s)))
		}
		for c := range 256 {
			b := string([]byte{byte(c)})
			if 32 <= c && c < 127 {
				continue
			}
			goesWrong(t, map[string]api.Fault{
				quote + b: {Err: form, At: 1}, quote + "ab" + b + quote + "<''": {Err: form, At: 3}, "''<" + quote + b + quote: {Err: form, At: 4}, "''<" + quote + "x" + b + b + "(": {Err: form, At: 5},
			})
		}
		goesWrong(t, map[string]api.Fault{
			quote: {Err: short, At: 1}, quote + "x": {Err: short, At: 2}, quote + "x ": {Err: short, At: 3}, quote + other: {Err: short, At: 2}, "''<" + quote: {Err: short, At: 4}, "''<" + quote + "x" + other: {Err: short, At: 6}, "''<" + quote + "x \t": {Err: form, At: 6}, "(''<" + quote + ")": {Err: short, At: 6}, "''<" + other + quote: {Err: short, At: 5}, quote + quote + quote: {Err: form, At: 2}, "''<" + quote + quote + quote: {Err: form, At: 5},
		})
	}
}

// P11.1: kinds within one another, and parentheses.
func TestJoined(t *testing.T) {
	a, b, c, d := is("a"), is("b"), is("c"), is("d")
	for s, want := range map[string]api.Mark{
		"A": a, "(A)": a, "((A))": a, "( ( (A) ) )": a,
		"A and B": and(a, b), "A or B": or(a, b), "(A and B)": and(a, b), "((A or B))": or(a, b), "(A)and(B)": and(a, b), "(A)or(B)": or(a, b), "(A) and B": and(a, b), "A or (B)": or(a, b),
		"A and B and C": and(a, b, c), "A or B or C or D": or(a, b, c, d), "A and A": and(a, a), "A or A or A": or(a, a, a),
		"A and B or C": or(and(a, b), c), "A or B and C": or(a, and(b, c)), "A and B or C and D": or(and(a, b), and(c, d)), "A or B and C or D": or(a, and(b, c), d),
		"(A or B) and C": and(or(a, b), c), "A and (B or C)": and(a, or(b, c)), "(A or B) and (C or D)": and(or(a, b), or(c, d)), "A and (B or C) and D": and(a, or(b, c), d), "(A and B) or C": or(and(a, b), c), "A or (B and C)": or(a, and(b, c)),
		"(A or B) or C": or(a, b, c), "A or (B or C)": or(a, b, c), "(A or B) or (C or D)": or(a, b, c, d), "(A and B) and C": and(a, b, c), "A and (B and C)": and(a, b, c), "(A and B) and (C and D)": and(a, b, c, d), "A and (B and C) and D": and(a, b, c, d), "A or (B or (C or D))": or(a, b, c, d), "((A and B) and C) and D": and(a, b, c, d), "A and ((B and C))": and(a, b, c), "((A or B)) or ((C))": or(a, b, c),
		"A or (B or C and D)": or(a, b, and(c, d)), "A or (B or C) and D": or(a, and(or(b, c), d)), "A or ((B or C) and D)": or(a, and(or(b, c), d)), "A and (B and (C or D))": and(a, b, or(c, d)), "A and (B or (C or D))": and(a, or(b, c, d)), "A and (B or (C and D))": and(a, or(b, and(c, d))), "(A or (B)) and C or D": or(and(or(a, b), c), d), "(A or B) and C and (D or A)": and(or(a, b), c, or(d, a)), "(A and B or C) and D": and(or(and(a, b), c), d), "(A and (B or C)) and D": and(a, or(b, c), d), "((A and B) or C) or D": or(and(a, b), c, d),
	} {
		for _, letter := range "ABCD" {
			s = strings.ReplaceAll(s, string(letter), "os_name=='"+strings.ToLower(string(letter))+"'")
		}
		says(t, s, want)
		says(t, " "+strings.ReplaceAll(s, "(", "\t( ")+" ", want)
		says(t, strings.ReplaceAll(s, " ", "  \t"), want)
		says(t, "("+strings.ReplaceAll(s, ")", " )\t")+" )", want)
	}
}

// P11.1: parentheses that are wrong.
func TestParentheses(t *testing.T) {
	goesWrong(t, map[string]api.Fault{
		"()": {Err: form, At: 1}, "( )": {Err: form, At: 2}, ")": {Err: form, At: 0}, "''<'')": {Err: form, At: 5}, "(''<''))": {Err: form, At: 7}, "(''<'') )": {Err: form, At: 8}, "(''<'')(": {Err: form, At: 7}, "''<''(": {Err: form, At: 5}, "(''<'')''": {Err: form, At: 7}, "('')": {Err: form, At: 3}, "(os_name)<''": {Err: form, At: 8}, "''<('')": {Err: form, At: 3}, "('' < '') < ''": {Err: form, At: 10}, "(''<'' and)": {Err: form, At: 10}, "(''<''or )": {Err: form, At: 9}, "(''<'' ''": {Err: form, At: 7}, "''<'' ''": {Err: form, At: 6}, "''<'' < ''": {Err: form, At: 6}, "''<'' 1": {Err: form, At: 6}, "''<'';": {Err: form, At: 5}, "(''<''[": {Err: form, At: 6}, "''<''\n": {Err: form, At: 5}, "''<'' \xff": {Err: form, At: 6}, "[": {Err: form, At: 0}, "1": {Err: form, At: 0}, "<": {Err: form, At: 0}, "\n": {Err: form, At: 0}, "\x00": {Err: form, At: 0}, "OS_NAME": {Err: form, At: 0}, "-os_name": {Err: form, At: 0},
	})
}

// P11.1: texts that end where they may not.
func TestShortMarkers(t *testing.T) {
	for _, s := range []string{
		"", " ", "\t\t", "(", "( ", "((", "os_name", "os_name ", "'x'", "'x'\t", "'x' <", "'x' <= ", "os_name==", "'x' in", "'x' in ", "'x' not", "'x' not ", "'x' not in", "'x' not in\t", "''<'' and", "''<''and ", "''<'' or", "''<''or\t", "(''<''", "(''<'' ", "((''<'')", "((''<'') ", "(''<'' and", "''<'' and (", "''<'' or ((''<'' ", "''<'' and os_name", "(os_name", "(''<", "(''not",
	} {
		goesWrong(t, map[string]api.Fault{s: {Err: short, At: len(s)}})
	}
}

// P11.1: the bytes of a marker.
func TestLengthOfMarkers(t *testing.T) {
	blanks := strings.Repeat(" ", api.MaxSpec)
	says(t, "os_name=='x'"+blanks[:244], is("x"))
	says(t, blanks[:244]+"os_name=='x'", is("x"))
	says(t, "os_name=='"+strings.Repeat("y", 245)+"'", is(strings.Repeat("y", 245)))
	goesWrong(t, map[string]api.Fault{
		"os_name=='x'" + blanks[:245]:                 {Err: long, At: 256},
		blanks[:245] + "os_name=='x'":                 {Err: long, At: 256},
		"os_name=='" + strings.Repeat("y", 246) + "'": {Err: long, At: 256},
		blanks + " ":                            {Err: long, At: 256},
		"foo" + blanks:                          {Err: long, At: 256},
		")" + blanks:                            {Err: long, At: 256},
		strings.Repeat("(", 1<<18):              {Err: long, At: 256},
		blanks:                                  {Err: short, At: 256},
		blanks[:255] + ")":                      {Err: form, At: 255},
		blanks[:253] + "foo":                    {Err: word, At: 253},
		"os_name=='" + strings.Repeat("y", 246): {Err: short, At: 256},
	})
}

// P11.1: the 8th and the 9th parenthesis within one another.
func TestDepth(t *testing.T) {
	in := func(n int, s string) string { return strings.Repeat("(", n) + s + strings.Repeat(")", n) }
	eight := in(8, "os_name=='x'")
	says(t, eight, is("x"))
	says(t, eight+" and "+eight+" and "+eight, and(is("x"), is("x"), is("x")))
	says(t, in(7, "os_name=='x' or "+in(1, "os_name=='y'")+"or"+in(1, "os_name=='z'")), or(is("x"), is("y"), is("z")))
	goesWrong(t, map[string]api.Fault{
		in(9, "''<''"):                {Err: deep, At: 8},
		strings.Repeat("(", 9):        {Err: deep, At: 8},
		strings.Repeat("(", 200):      {Err: deep, At: 8},
		strings.Repeat("( ", 8) + "(": {Err: deep, At: 16},
		in(8, "''<'' and (''<'')"):    {Err: deep, At: 18},
		in(8, "''<'' or\t(") + "foo":  {Err: deep, At: 17},
		in(4, in(5, "foo")):           {Err: deep, At: 8},
		eight + "or" + in(9, "''<''"): {Err: deep, At: 38},
		strings.Repeat("(", 8):        {Err: short, At: 8},
		in(8, ""):                     {Err: form, At: 8},
		in(8, "foo("):                 {Err: word, At: 8},
		in(8, "''<''") + "(":          {Err: form, At: 21},
		strings.Repeat("(", 8) + "1(": {Err: form, At: 8},
	})
}

// P11.1: the 32nd and the 33rd comparison.
func TestCountOfComparisons(t *testing.T) {
	one := comp(text(""), "<", text(""))
	most := strings.Repeat("''<''or", 31) + "''<''"
	says(t, most, or(slices.Repeat([]api.Mark{one}, 32)...))
	says(t, strings.ReplaceAll(most, "or", " or"), or(slices.Repeat([]api.Mark{one}, 32)...))
	says(t, strings.Repeat("''<''and", 30)+"(''<'')and''<''", and(slices.Repeat([]api.Mark{one}, 32)...))
	halves := strings.Repeat("''<''or", 15) + "''<''"
	says(t, "("+halves+")and("+halves+")", and(or(slices.Repeat([]api.Mark{one}, 16)...), or(slices.Repeat([]api.Mark{one}, 16)...)))
	end := len(most)
	goesWrong(t, map[string]api.Fault{
		most + "or''<''":     {Err: long, At: end + 2},
		most + "and''<''":    {Err: long, At: end + 3},
		most + "or \t''<''":  {Err: long, At: end + 4},
		most + "or os_name":  {Err: long, At: end + 3},
		most + "or extra<'":  {Err: long, At: end + 3},
		most + "or('x'<'')":  {Err: long, At: end + 3},
		most + "or(( \"x":    {Err: long, At: end + 5},
		most + "or'":         {Err: long, At: end + 2},
		most + "or'\x7f":     {Err: long, At: end + 2},
		most + "or''foo":     {Err: long, At: end + 2},
		most + "or os_name2": {Err: long, At: end + 3},
		// No comparison begins there.
		most + "or foo":               {Err: word, At: end + 3},
		most + "or in":                {Err: word, At: end + 3},
		most + "or 1":                 {Err: form, At: end + 3},
		most + "or)":                  {Err: form, At: end + 2},
		most + "or":                   {Err: short, At: end + 2},
		most + "or ":                  {Err: short, At: end + 3},
		most + "or(":                  {Err: short, At: end + 3},
		most + "''<''":                {Err: form, At: end},
		most + "foo''<''":             {Err: word, At: end},
		most[:end-1] + "or":           {Err: short, At: end + 1},
		"foo" + most + "or":           {Err: word, At: 0},
		strings.Repeat("''<''or", 36): {Err: long, At: end + 2},
	})
}

// machine reads a marker by states, each of which says what may stand next.
type machine struct {
	s            string
	at           int
	depth, count int
	tokens       []string
	fault        api.Fault
}

var (
	wordForm = regexp.MustCompile(`^[a-z_]+`)
	signForm = regexp.MustCompile(`^(===|[<>=!~]=|[<>])`)
	textForm = regexp.MustCompile(`^('[ -&(-~]*'|"[ !#-~]*")`)
	openForm = regexp.MustCompile(`^('[ -&(-~]*|"[ !#-~]*)`)
)

func (m *machine) rest() string { return m.s[m.at:] }

func (m *machine) take(token string) {
	m.tokens = append(m.tokens, token)
	m.at += len(token)
}

func (m *machine) fail(err api.Errno, at int) string {
	m.fault = api.Fault{Err: err, At: at}
	return "failed"
}

func (m *machine) misfit() string {
	switch {
	case m.rest() == "":
		return m.fail(short, m.at)
	case wordForm.MatchString(m.rest()):
		return m.fail(word, m.at)
	}
	return m.fail(form, m.at)
}

// side is the state behind a side, if one stands next.
func (m *machine) side(then string) string {
	w := wordForm.FindString(m.rest())
	switch {
	case slices.Contains(variables(), w):
		m.take(w)
		return then
	case textForm.MatchString(m.rest()):
		m.take(textForm.FindString(m.rest()))
		return then
	case openForm.MatchString(m.rest()):
		m.at += len(openForm.FindString(m.rest()))
		if m.rest() == "" {
			return m.fail(short, m.at)
		}
		return m.fail(form, m.at)
	}
	return m.misfit()
}

func (m *machine) term() string {
	switch {
	case strings.HasPrefix(m.rest(), "(") && m.depth == 8:
		return m.fail(deep, m.at)
	case strings.HasPrefix(m.rest(), "("):
		m.depth++
		m.take("(")
		return "term"
	case m.count == 32 && (openForm.MatchString(m.rest()) || slices.Contains(variables(), wordForm.FindString(m.rest()))):
		return m.fail(long, m.at)
	}
	m.count++
	return m.side("operator")
}

func (m *machine) operator() string {
	if sign := signForm.FindString(m.rest()); sign != "" {
		m.take(sign)
		return "right"
	}
	if m.rest() != "" && strings.Contains("=!~", m.rest()[:1]) {
		if m.at++; m.rest() == "" {
			return m.fail(short, m.at)
		}
		return m.fail(form, m.at)
	}
	switch w := wordForm.FindString(m.rest()); w {
	case "in":
		m.take(w)
		return "right"
	case "not":
		m.at += len(w)
		return "in"
	}
	return m.misfit()
}

func (m *machine) behind() string {
	switch w := wordForm.FindString(m.rest()); {
	case w == "and" || w == "or":
		m.take(w)
		return "term"
	case m.depth > 0 && strings.HasPrefix(m.rest(), ")"):
		m.depth--
		m.take(")")
		return "behind"
	case m.depth == 0 && m.rest() == "":
		return "done"
	}
	return m.misfit()
}

func (m *machine) run() {
	for state := "term"; state != "done" && state != "failed"; {
		m.at += len(m.rest()) - len(strings.TrimLeft(m.rest(), " \t"))
		switch state {
		case "term":
			state = m.term()
		case "operator":
			state = m.operator()
		case "in":
			state = m.misfit()
			if wordForm.FindString(m.rest()) == "in" {
				m.fault = api.Fault{}
				m.tokens = append(m.tokens, "not in")
				m.at += len("in")
				state = "right"
			}
		case "right":
			state = m.side("behind")
		case "behind":
			state = m.behind()
		}
	}
}

// splitTokens is what stands between the tokens that are a word and in no parentheses.
func splitTokens(l []string, w string) [][]string {
	var all [][]string
	depth, start := 0, 0
	for i, token := range l {
		switch {
		case token == "(":
			depth++
		case token == ")":
			depth--
		case token == w && depth == 0:
			all = append(all, l[start:i])
			start = i + 1
		}
	}
	return append(all, l[start:])
}

func sideOf(token string) api.Side {
	if slices.Contains(variables(), token) {
		return variable(token)
	}
	return text(token[1 : len(token)-1])
}

// tree is the marker of some tokens: split at the words, the weaker one first.
func tree(l []string) api.Mark {
	for _, kind := range []struct {
		op   int
		word string
	}{{api.MkOr, "or"}, {api.MkAnd, "and"}} {
		rows := splitTokens(l, kind.word)
		if len(rows) == 1 {
			continue
		}
		m := api.Mark{Op: kind.op}
		for _, row := range rows {
			sub := tree(row)
			if sub.Op == kind.op {
				m.Subs = append(m.Subs, sub.Subs...)
				continue
			}
			m.Subs = append(m.Subs, sub)
		}
		return m
	}
	if l[0] == "(" {
		return tree(l[1 : len(l)-1])
	}
	return comp(sideOf(l[0]), l[1], sideOf(l[2]))
}

// wantedMarker is the chapter's words on a marker that stands in a text from a place on.
func wantedMarker(s string, at int) (api.Mark, api.Fault) {
	if len(s) > 256 {
		return api.Mark{}, api.Fault{Err: long, At: 256}
	}
	m := machine{s: s, at: at}
	m.run()
	if m.fault.Err != api.OK {
		return api.Mark{}, m.fault
	}
	return tree(m.tokens), api.Fault{}
}

// everyMarker is all short rows of what markers are made of, also near to their limits.
func everyMarker() []string {
	l := slices.Concat(
		checks.Rows([]string{"os_name", "'x'", "<", " ", "in", "not"}, 6),
		checks.Rows([]string{"'x'<'y'", "and", "or", "(", ")", " "}, 6),
		checks.Rows([]string{"''<''and", "(''<''or", "''<'')", "''<''", "(", ")or", ")and("}, 6),
		checks.Rows([]string{"extra", `"`, "'", "==", "\t", "foo", "1"}, 5),
	)
	for _, signs := range checks.Texts("=<>!~ ", 4) {
		l = append(l, "''"+signs+"''", "''"+signs)
	}
	for _, row := range checks.Rows([]string{"''<''", "or", "and", "(", ")", "x", " ", "'"}, 4) {
		l = append(l, strings.Repeat("''<''or", 31)+row, strings.Repeat("''<''and", 30)+"(''<''or"+row, strings.Repeat("(", 8)+row, strings.Repeat("(", 7)+row+strings.Repeat(")", 7))
	}
	for c := range 256 {
		b := string([]byte{byte(c)})
		for _, place := range [][2]string{
			{"", ""}, {"", "''<''"}, {" ", "extra<''"}, {"(", "''<'')"}, {"'", "'<''"}, {`"`, `"<''`}, {"'x", "'<''"}, {"''", "<''"}, {"extra", "<''"}, {"extra ", "''"}, {"''=", "''"}, {"''==", "''"}, {"''!", "''"}, {"''~", "''"}, {"''<", "''"}, {"''>", "''"}, {"''i", "''"}, {"''in", "''"}, {"''in ", "''"}, {"''not", "in''"}, {"''not ", "in''"}, {"''not", " in''"}, {"''not in", "''"}, {"''<'", "'"}, {"''<''", ""}, {"''<extra", ""}, {"''<'' ", ""}, {"''<''", "and''<''"}, {"''<''and", "''<''"}, {"''<''or", "''<''"}, {"''<''o", "''<''"}, {"(''<''", ")"}, {"(''<''", ""}, {"(''<'')", ""}, {"(''<'')", "or''<''"}, {"''<''or(", "''<'')"},
		} {
			l = append(l, place[0]+b+place[1])
		}
	}
	return l
}

// P11.1 of Marker by its words, P11.3 of what is read, and P11.5.
func TestMarkerEverywhere(t *testing.T) {
	kinds := map[api.Errno]int{}
	for _, s := range everyMarker() {
		m, f := marker.Marker(s)
		if want, wrong := wantedMarker(s, 0); f != wrong || !same(m, want) {
			t.Fatalf("Marker(%q) = %+v, %v, not %+v, %v", s, m, f, want, wrong)
		}
		kinds[f.Err]++
		if f.Err != api.OK {
			continue
		}
		if !marker.Fit(m) {
			t.Fatalf("%q is read as %+v, which is not fit", s, m)
		}
		if again, g := marker.Marker(marker.Text(m)); len(marker.Text(m)) <= 256 && (g != (api.Fault{}) || !same(again, m)) {
			t.Fatalf("%q is %+v, written %q, read again %+v, %v", s, m, marker.Text(m), again, g)
		}
	}
	for _, err := range []api.Errno{api.OK, form, short, long, deep, word} {
		if kinds[err] < 50 {
			t.Errorf("only %d texts of the kind %d", kinds[err], err)
		}
	}
}
