package rich_test

import (
	"slices"
	"strings"
	"testing"

	"dovetail/api"
	"dovetail/rich"
	"dovetail/rpm"
)

const (
	form    = api.ErrForm
	short   = api.ErrShort
	long    = api.ErrLong
	deep    = api.ErrDeep
	word    = api.ErrWord
	kind    = api.ErrType
	version = api.ErrVersion
)

// is is a capability that is a name alone.
func is(name string) api.Rich { return api.Rich{Op: api.RiCap, Name: name} }

// has is a capability with a comparison.
func has(name, cmp, evr string) api.Rich {
	return api.Rich{Op: api.RiCap, Name: name, Cmp: cmp, Evr: evr}
}

func of(op int, l ...api.Rich) api.Rich { return api.Rich{Op: op, Subs: l} }

func and(l ...api.Rich) api.Rich { return of(api.RiAnd, l...) }

func or(l ...api.Rich) api.Rich { return of(api.RiOr, l...) }

func iff(l ...api.Rich) api.Rich { return of(api.RiIf, l...) }

func unless(l ...api.Rich) api.Rich { return of(api.RiUnless, l...) }

func with(l ...api.Rich) api.Rich { return of(api.RiWith, l...) }

func without(l ...api.Rich) api.Rich { return of(api.RiWithout, l...) }

// named is capabilities of names alone.
func named(names ...string) []api.Rich {
	var l []api.Rich
	for _, name := range names {
		l = append(l, is(name))
	}
	return l
}

func same(a, b api.Rich) bool {
	return a.Op == b.Op && a.Name == b.Name && a.Cmp == b.Cmp && a.Evr == b.Evr && slices.EqualFunc(a.Subs, b.Subs, same)
}

func zero(r api.Rich) bool {
	return r.Op == 0 && r.Name == "" && r.Cmp == "" && r.Evr == "" && r.Subs == nil
}

// reads checks what texts are read as.
func reads(t *testing.T, wanted map[string]api.Rich) {
	t.Helper()
	for s, want := range wanted {
		if r, f := rich.Parse(s); f != (api.Fault{}) || !same(r, want) {
			t.Errorf("Parse(%q) = %+v, %v, not %+v", s, r, f, want)
		}
	}
}

// faults checks where texts go wrong.
func faults(t *testing.T, wanted map[string]api.Fault) {
	t.Helper()
	for s, want := range wanted {
		if r, f := rich.Parse(s); f != want || !zero(r) {
			t.Errorf("Parse(%q) = %+v, %v, not %v", s, r, f, want)
		}
	}
}

// operators is the words behind a first operand, by their kinds.
func operators() map[int]string {
	return map[int]string{api.RiAnd: "and", api.RiOr: "or", api.RiIf: "if", api.RiUnless: "unless", api.RiWith: "with", api.RiWithout: "without"}
}

func comparisons() []string { return []string{"<", "<=", "=", ">=", ">"} }

// P13.1: the chapter's examples, and a dependency of each kind.
func TestDependencies(t *testing.T) {
	a, b, c := is("a"), is("b"), is("c")
	reads(t, map[string]api.Rich{
		"foo >= 1:2.0-3":           has("foo", ">=", "1:2.0-3"),
		"(a or (b and c < 2))":     or(a, and(b, has("c", "<", "2"))),
		"(a if b else c)":          iff(a, b, c),
		"perl(Foo)":                is("perl(Foo)"),
		"a":                        a,
		"a = 1":                    has("a", "=", "1"),
		"(a and b)":                and(a, b),
		"(a or b)":                 or(a, b),
		"(a if b)":                 iff(a, b),
		"(a unless b)":             unless(a, b),
		"(a unless b else c)":      unless(a, b, c),
		"(a with b)":               with(a, b),
		"(a without b)":            without(a, b),
		"(a = 1 and b < 2)":        and(has("a", "=", "1"), has("b", "<", "2")),
		"(perl(A) or perl(B))":     or(is("perl(A)"), is("perl(B)")),
		"((a or b) if (b and c))":  iff(or(a, b), and(b, c)),
		"((a with b) and c)":       and(with(a, b), c),
		"(c and (a without b))":    and(c, without(a, b)),
		"((a if b) if (b if c))":   iff(iff(a, b), iff(b, c)),
		"(a if b else (b if c))":   iff(a, b, iff(b, c)),
		"(a if (b if c else a))":   iff(a, iff(b, c, a)),
		"((a and b) and c)":        and(and(a, b), c),
		"(a or a or a)":            or(a, a, a),
		"(and and and)":            and(is("and"), is("and")),
		"(if if if else else)":     iff(is("if"), is("if"), is("else")),
		"(or unless else else or)": unless(is("or"), is("else"), is("or")),
	})
	faults(t, map[string]api.Fault{
		"(a and b or c)": {Err: word, At: 9}, "(a with (b and c))": {Err: kind, At: 8}, "a >=": {Err: short, At: 4},
	})
}

// P13.1: nothing, blanks alone, blanks at both ends, and bytes that are no blanks.
func TestNothing(t *testing.T) {
	for _, b := range []string{"", " ", "\t", " \t \t", strings.Repeat(" ", 246)} {
		faults(t, map[string]api.Fault{b: {Err: short, At: len(b)}})
		for _, s := range []string{"\n", "\r", "\v", "\f", "\x00", "\x7f", "\x80", "\xa0", "\xff", "\u00a0", "<", "=", ">", ")", "\na", ")a", "=a", "<= 1", ") or b)"} {
			faults(t, map[string]api.Fault{b + s: {Err: form, At: len(b)}})
		}
		reads(t, map[string]api.Rich{
			b + "a": is("a"), "a" + b: is("a"), "\t" + b + "a \t": is("a"), b + "a = 1": has("a", "=", "1"), "a = 1" + b: has("a", "=", "1"), b + "(a or b)": or(is("a"), is("b")), "(a or b)" + b: or(is("a"), is("b")),
		})
		for s, at := range map[string]int{"a\n": 1, "a\r": 1, "a\v": 1, "a\f": 1, "a\x7f": 1, "a\x80": 1, "a\u00a0": 1, "a \n": 2, "a b": 2, "a\tb": 2, "a )": 2, "a (": 2, "a !": 2, "a \x00": 2, "a and b": 2, "a , b": 2, "a  =\n": 4, "a = 1 \n": 6, "(a or b)\n": 8, "(a or b) \r": 9} {
			faults(t, map[string]api.Fault{b + s: {Err: form, At: len(b) + at}})
		}
	}
	faults(t, map[string]api.Fault{strings.Repeat("\t", 256): {Err: short, At: 256}, strings.Repeat(" ", 257): {Err: long, At: 256}})
}

// P13.1: the bytes of a dependency.
func TestLength(t *testing.T) {
	blanks := strings.Repeat(" ", 257)
	ab := or(is("a"), is("b"))
	reads(t, map[string]api.Rich{
		blanks[:255] + "a":            is("a"),
		"a" + blanks[:255]:            is("a"),
		"a" + blanks[:252] + "= 1":    has("a", "=", "1"),
		"(a or" + blanks[:249] + "b)": ab, "(a" + blanks[:249] + "or b)": ab, "(a or b" + blanks[:248] + ")": ab, "(a or b)" + blanks[:248]: ab,
	})
	faults(t, map[string]api.Fault{
		blanks[:256] + "a":               {Err: long, At: 256},
		"a" + blanks[:256]:               {Err: long, At: 256},
		"(a or" + blanks[:250] + "b)":    {Err: long, At: 256},
		blanks:                           {Err: long, At: 256},
		"\x00" + blanks:                  {Err: long, At: 256},
		"(a xx b)" + blanks:              {Err: long, At: 256},
		strings.Repeat("(", 257):         {Err: long, At: 256},
		strings.Repeat("a", 1<<18):       {Err: long, At: 256},
		strings.Repeat("a", 256):         {Err: long, At: 48},
		"(a or" + blanks[:249] + "bb":    {Err: short, At: 256},
		"(a or" + blanks[:250] + "b":     {Err: short, At: 256},
		"(a or" + blanks[:251]:           {Err: short, At: 256},
		"a =" + blanks[:253]:             {Err: short, At: 256},
		"a" + blanks[:254] + "=":         {Err: short, At: 256},
		"a" + blanks[:254] + "b":         {Err: form, At: 255},
		"(a or" + blanks[:249] + "b\x00": {Err: form, At: 255},
	})
}

// P13.1: names of each byte, alone and in a rich one.
func TestNameBytes(t *testing.T) {
	for c := range 256 {
		b := string([]byte{byte(c)})
		blank := c == 32 || c == 9
		inName := 33 <= c && c <= 126
		switch {
		case inName && !strings.Contains("()<=>", b):
			reads(t, map[string]api.Rich{b: is(b), b + b: is(b + b), " " + b: is(b), b + " = 1": has(b, "=", "1"), "(" + b + " or a)": or(is(b), is("a")), "(a or " + b + ")": or(is("a"), is(b)), "(a if b else " + b + b + ")": iff(is("a"), is("b"), is(b+b))})
		case c == '(':
			faults(t, map[string]api.Fault{b: {Err: short, At: 1}})
		case blank:
			faults(t, map[string]api.Fault{"(" + b + "a or b)": {Err: form, At: 1}, "((" + b + "a or b) or c)": {Err: form, At: 2}})
		default:
			faults(t, map[string]api.Fault{b: {Err: form, At: 0}, b + "a": {Err: form, At: 0}, " " + b + "a": {Err: form, At: 1}, "(" + b + " or a)": {Err: form, At: 1}, "(a or " + b + "b)": {Err: form, At: 6}, "(a with " + b: {Err: form, At: 8}, "(a if b else " + b: {Err: form, At: 13}})
		}
		switch {
		case inName && c != '(' && c != ')':
			reads(t, map[string]api.Rich{"a" + b: is("a" + b), "a" + b + "1": is("a" + b + "1"), "(a" + b + " or a)": or(is("a"+b), is("a")), "(a or a" + b + "b)": or(is("a"), is("a"+b+"b"))})
		case c == '(':
			reads(t, map[string]api.Rich{"a()": is("a()"), "a()b": is("a()b"), "(a() or b(x))": or(is("a()"), is("b(x)"))})
		case blank:
			reads(t, map[string]api.Rich{"a" + b: is("a"), "a" + b + "=" + b + "1": has("a", "=", "1"), "(a" + b + "or" + b + "b" + b + ")": or(is("a"), is("b"))})
		case c == ')':
			faults(t, map[string]api.Fault{"a)": {Err: form, At: 1}, "a)b": {Err: form, At: 1}, "(a) or b)": {Err: form, At: 2}})
		default:
			faults(t, map[string]api.Fault{"a" + b: {Err: form, At: 1}, "a" + b + "b": {Err: form, At: 1}, "(a" + b + " or b)": {Err: form, At: 2}, "(a or b" + b + ")": {Err: form, At: 7}, "a(" + b: {Err: form, At: 2}, "a(" + b + ")": {Err: form, At: 2}})
		}
	}
}

// P13.1: names of each length, alone and in a rich one.
func TestNameLengths(t *testing.T) {
	most := strings.Repeat("a<=(>)", 8)
	if len(most) != 48 {
		t.Fatal(len(most))
	}
	reads(t, map[string]api.Rich{
		"a": is("a"), most: is(most), " " + most + "\t": is(most), most + " = 1": has(most, "=", "1"), most[:47] + ")": is(most), "(" + most + " or " + most + ")": or(is(most), is(most)), "(a with " + most + " < 1)": with(is("a"), has(most, "<", "1")),
	})
	for _, b := range []string{"a", "!", "~", "<", "=", "(", "()", "aaa", "a\x00", "a b", "a)"} {
		faults(t, map[string]api.Fault{most + b: {Err: long, At: 48}, " " + most + b: {Err: long, At: 49}, "(" + most + b + " or a)": {Err: long, At: 49}, "(a or " + most + b: {Err: long, At: 54}})
	}
	open := strings.Repeat("a", 47) + "("
	faults(t, map[string]api.Fault{
		// A parenthesis that is open does not make a name longer than it may be.
		open + ")": {Err: long, At: 48}, open + "a": {Err: long, At: 48}, open: {Err: short, At: 48}, open + " ": {Err: form, At: 48}, open + "\x7f": {Err: form, At: 48}, "(" + open + ") or b)": {Err: long, At: 49}, "(" + open + " or b)": {Err: form, At: 49},
		// What ends a name, right behind its last byte.
		most + ")": {Err: form, At: 48}, most + "\x7f": {Err: form, At: 48}, most + "\x1f": {Err: form, At: 48}, most + "\xff": {Err: form, At: 48}, "(" + most + ")": {Err: form, At: 49}, "(" + most: {Err: short, At: 49},
	})
}

// P13.1: parentheses within a name, alone and in a rich one.
func TestNameParentheses(t *testing.T) {
	for _, name := range []string{"a()", "a(b)", "a(b)c", "a()()", "a((b))", "a(b(c)d)e", "a((((((((((b))))))))))", "a(<=>)", "a(=)", "a()<=>", "1(2)", "a(" + strings.Repeat("(", 20) + strings.Repeat(")", 20) + ")"} {
		reads(t, map[string]api.Rich{
			name: is(name), " " + name + " ": is(name), name + " >= 1": has(name, ">=", "1"),
			"(" + name + " or b)": or(is(name), is("b")), "(b or " + name + ")": or(is("b"), is(name)), "(b or " + name + " )": or(is("b"), is(name)), "(b or (c and " + name + "))": or(is("b"), and(is("c"), is(name))),
		})
		faults(t, map[string]api.Fault{
			// A ) that closes none of its own ends it.
			name + ")": {Err: form, At: len(name)}, name + "))": {Err: form, At: len(name)}, name + ")b": {Err: form, At: len(name)}, "(" + name + ")": {Err: form, At: len(name) + 1}, "(" + name + ") or b)": {Err: form, At: len(name) + 1}, "(b or " + name + "))": {Err: form, At: len(name) + 7}, "(b or " + name + ")c": {Err: form, At: len(name) + 7},
			"(" + name: {Err: short, At: len(name) + 1}, "(b or " + name: {Err: short, At: len(name) + 6},
		})
	}
	for _, name := range []string{"a(", "a(b", "a((b)", "a()(", "a(b(c)", "a((((", "a(<"} {
		at := len(name)
		faults(t, map[string]api.Fault{
			name: {Err: short, At: at}, "  " + name: {Err: short, At: at + 2}, "(" + name: {Err: short, At: at + 1}, "(b or " + name: {Err: short, At: at + 6},
			name + " ": {Err: form, At: at}, name + "\tb)": {Err: form, At: at}, name + " = 1)": {Err: form, At: at}, "(" + name + " or b)": {Err: form, At: at + 1}, "(b or " + name + " )": {Err: form, At: at + 6}, name + "\x7f": {Err: form, At: at}, name + "\n)": {Err: form, At: at},
		})
	}
}

// P13.1: comparisons, those that are none, and their blanks, alone and in a rich one.
func TestComparisons(t *testing.T) {
	for _, cmp := range comparisons() {
		want := has("a", cmp, "1")
		at := 2 + len(cmp)
		reads(t, map[string]api.Rich{
			"a " + cmp + " 1": want, "\ta \t" + cmp + "\t 1 ": want, "(a " + cmp + " 1 or b)": or(want, is("b")), "(b or a  " + cmp + "  1  )": or(is("b"), want), "(b or a\t" + cmp + "\t1)": or(is("b"), want), "(a " + cmp + " 1 without a " + cmp + " 1)": without(want, want),
			// Without a blank ahead it belongs to the name.
			"a" + cmp: is("a" + cmp), "a" + cmp + "1": is("a" + cmp + "1"), "a" + cmp + " " + cmp + " 1": has("a"+cmp, cmp, "1"), "(a" + cmp + "1 or b)": or(is("a"+cmp+"1"), is("b")), "(a or b" + cmp + ")": or(is("a"), is("b"+cmp)),
		})
		faults(t, map[string]api.Fault{
			"a " + cmp: {Err: short, At: at}, "a " + cmp + " ": {Err: short, At: at + 1}, "a " + cmp + " \t ": {Err: short, At: at + 3}, "(a " + cmp: {Err: short, At: at + 1}, "(a " + cmp + " ": {Err: short, At: at + 2}, "(a or b " + cmp + "  ": {Err: short, At: at + 8},
			"a " + cmp + "1": {Err: form, At: at}, "a " + cmp + "x 1": {Err: form, At: at}, "a " + cmp + ")": {Err: form, At: at}, "a " + cmp + "\n1": {Err: form, At: at}, "a " + cmp + "!": {Err: form, At: at}, "a " + cmp + "> 1": {Err: form, At: at}, "a " + cmp + "< 1": {Err: form, At: at}, "(a " + cmp + "1 or b)": {Err: form, At: at + 1}, "(a " + cmp + "): ": {Err: form, At: at + 1}, "(a " + cmp + "or b)": {Err: form, At: at + 1}, "(a or b " + cmp + ")": {Err: form, At: at + 6},
			"a" + cmp + " 1": {Err: form, At: at}, "(a" + cmp + " 1 or b)": {Err: word, At: at + 1},
			// Within a rich one a ) ends an EVR, of which a byte at least must stand ahead.
			"(a " + cmp + " ) or b)": {Err: form, At: at + 2}, "(a or b " + cmp + "  )": {Err: form, At: at + 8},
			"a " + cmp + " 1 " + cmp + " 1": {Err: form, At: at + 3}, "(a " + cmp + " 1 " + cmp + " 1 or b)": {Err: word, At: at + 4},
		})
	}
	faults(t, map[string]api.Fault{
		"a == 1": {Err: form, At: 3}, "a => 1": {Err: form, At: 3}, "a =< 1": {Err: form, At: 3}, "a <> 1": {Err: form, At: 3}, "a >< 1": {Err: form, At: 3}, "a << 1": {Err: form, At: 3}, "a >> 1": {Err: form, At: 3}, "a <=> 1": {Err: form, At: 4}, "a <== 1": {Err: form, At: 4}, "a >== 1": {Err: form, At: 4}, "a < = 1": {Err: version, At: 4}, "a > = 1": {Err: version, At: 4},
		"a != 1": {Err: form, At: 2}, "a ~ 1": {Err: form, At: 2}, "a 1": {Err: form, At: 2}, "a ! 1": {Err: form, At: 2}, "a eq 1": {Err: form, At: 2}, "a (= 1)": {Err: form, At: 2},
		"(a == 1 or b)": {Err: form, At: 4}, "(a => 1 or b)": {Err: form, At: 4}, "(a <> 1 or b)": {Err: form, At: 4}, "(a <=> 1 or b)": {Err: form, At: 5}, "(a or b == 1)": {Err: form, At: 9}, "(a < = 1 or b)": {Err: version, At: 5},
		"(a != 1 or b)": {Err: word, At: 3}, "(a ~ 1 or b)": {Err: word, At: 3}, "(a 1 or b)": {Err: word, At: 3}, "(a or b != 1)": {Err: word, At: 8}, "(a (= 1) or b)": {Err: form, At: 3}, "((a or b) = 1 or c)": {Err: word, At: 10}, "((a or b) = 1": {Err: word, At: 10}, "(a or b) = 1": {Err: form, At: 9},
	})
}

// P13.1: EVRs, each fault of chapter 5, and where an EVR ends.
func TestEvrs(t *testing.T) {
	longest := strings.Repeat("1.a", 21) + "~"
	for _, v := range []string{"1", "0", "a", "1.0-1", "1:2-3", "007:1", "0:1", "1~rc1^git+x_y", "._+~^", "~-^", longest} {
		want := has("a", ">=", v)
		reads(t, map[string]api.Rich{"a >= " + v: want, "a >= " + v + " ": want, "(a >= " + v + " or b)": or(want, is("b")), "(b or a >= " + v + ")": or(is("b"), want), "(b or a >= " + v + "\t)": or(is("b"), want), "((b or a >= " + v + ") and c)": and(or(is("b"), want), is("c"))})
		at := len("(a >= " + v)
		faults(t, map[string]api.Fault{
			"a >= " + v + " b": {Err: form, At: at}, "a >= " + v + "\t1": {Err: form, At: at}, "a >= " + v + " )": {Err: form, At: at}, "a >= " + v + " (": {Err: form, At: at}, "a >= " + v + "  \n": {Err: form, At: at + 1},
			"(a >= " + v: {Err: short, At: at}, "(a >= " + v + " ": {Err: short, At: at + 1}, "(a >= " + v + ")": {Err: form, At: at}, "(a >= " + v + " )": {Err: form, At: at + 1}, "(a >= " + v + " (": {Err: form, At: at + 1}, "(a >= " + v + " x": {Err: word, At: at + 1}, "(b or a >= " + v + "))": {Err: form, At: at + 6},
			// Parentheses: alone they belong to it, within a rich one a ) ends it.
			"a >= " + v + ")": {Err: version, At: 5}, "a >= " + v + "()": {Err: version, At: 5}, "a >= " + v + "(": {Err: version, At: 5}, "a >= (" + v + ")": {Err: version, At: 5}, "a >= )" + v: {Err: version, At: 5}, "a >= ) " + v: {Err: version, At: 5},
			"(a >= " + v + "( or b)": {Err: version, At: 6}, "(a >= " + v + "(x) or b)": {Err: version, At: 6}, "(a >= (" + v + ") or b)": {Err: version, At: 6}, "(b or a >= " + v + "()": {Err: version, At: 11}, "(a >= )" + v + " or b)": {Err: form, At: 6}, "(a >= " + v + ")x or b)": {Err: form, At: at},
		})
	}
	for _, v := range []string{
		"-", "-1", ":", ":1", "!", "1!", "=", "1=", "a:1", "1a:1", "1:2:3", "1-2-3", "1-2:3", "1--", "1:-", "1\n", "\x00", "1\xff", "\xc3\xa9", "1,2", "/", "1-!", "<", ">=",
		"1:", "00:", "1-", "1:2-", longest + "1", longest + "!", "!" + longest, strings.Repeat("-", 100),
	} {
		_, f := rpm.Parse(v)
		if f.Err == api.OK {
			t.Fatalf("%q has no fault", v)
		}
		for _, ahead := range []string{"a > ", "\ta\t<  ", "(a = ", "(b or a <= ", "((a with b >=\t"} {
			for _, behind := range []string{"", " ", " b", " or c)", "\t!"} {
				faults(t, map[string]api.Fault{ahead + v + behind: {Err: version, At: len(ahead)}})
			}
			if strings.Contains(ahead, "(") {
				faults(t, map[string]api.Fault{ahead + v + ")": {Err: version, At: len(ahead)}, ahead + v + ") !": {Err: version, At: len(ahead)}, ahead + v + "))": {Err: version, At: len(ahead)}})
			}
		}
	}
	// A word behind a comparison is an EVR, whatever else it could be.
	reads(t, map[string]api.Rich{"a = or": has("a", "=", "or"), "(a = or or b)": or(has("a", "=", "or"), is("b"))})
}

// P13.1: each operator with one operand more and more.
func TestOperators(t *testing.T) {
	names := named("a", "b", "c", "d", "e")
	for op, w := range operators() {
		for count := 2; count <= 5; count++ {
			s := "(a"
			for i := 1; i < count; i++ {
				s += " " + w + " " + names[i].Name
			}
			second := len("(a " + w + " b ")
			if count > 2 && op != api.RiAnd && op != api.RiOr && op != api.RiWith {
				faults(t, map[string]api.Fault{s + ")": {Err: word, At: second}, s: {Err: word, At: second}})
				continue
			}
			want := of(op, names[:count]...)
			reads(t, map[string]api.Rich{s + ")": want, s + "  )": want, " " + s + "\t) ": want, strings.ReplaceAll(s, " ", " \t") + ")": want, "(x and " + s + "))": and(is("x"), want), "(" + s + ") and x)": and(want, is("x"))})
			faults(t, map[string]api.Fault{s: {Err: short, At: len(s)}, s + " ": {Err: short, At: len(s) + 1}, s + "))": {Err: form, At: len(s) + 1}, s + " (": {Err: form, At: len(s) + 1}})
			for _, other := range []string{"and", "or", "if", "unless", "with", "without", "else"} {
				if other == w && op != api.RiWithout && op != api.RiIf && op != api.RiUnless || other == "else" && (op == api.RiIf || op == api.RiUnless) {
					continue
				}
				faults(t, map[string]api.Fault{s + " " + other + " x)": {Err: word, At: len(s) + 1}, s + "\t\t" + other: {Err: word, At: len(s) + 2}, s + " " + other + ")": {Err: word, At: len(s) + 1}, s + " " + other + "(x or y))": {Err: word, At: len(s) + 1}})
			}
		}
		faults(t, map[string]api.Fault{
			"(a " + w: {Err: short, At: 3 + len(w)}, "(a " + w + " ": {Err: short, At: 4 + len(w)}, "(a " + w + ")": {Err: form, At: 3 + len(w)}, "(a " + w + " )": {Err: form, At: 4 + len(w)}, "(a " + w + "(": {Err: form, At: 3 + len(w)}, "(a " + w + "(b or c))": {Err: form, At: 3 + len(w)}, "(a " + w + ") b)": {Err: form, At: 3 + len(w)},
			"(a " + w + "\n b)": {Err: word, At: 3}, "(a " + w + "x b)": {Err: word, At: 3}, "(a x" + w + " b)": {Err: word, At: 3}, "(a " + w[:len(w)-1] + " b)": {Err: word, At: 3}, "(a " + w[:1]: {Err: word, At: 3}, "(a " + strings.ToUpper(w) + " b)": {Err: word, At: 3}, "(a " + w + "= b)": {Err: word, At: 3}, "(a " + w + ",": {Err: word, At: 3},
			"(a " + w + " " + w + " b)": {Err: word, At: 5 + 2*len(w)},
			// A rich one needs a blank behind it as well.
			"((a or b)" + w + " c)": {Err: form, At: 9}, "((a or b)" + w: {Err: form, At: 9}, "(a" + w + " b)": {Err: word, At: 3 + len(w)}, w + " b": {Err: form, At: len(w) + 1}, "a " + w + " b": {Err: form, At: 2},
		})
	}
}

// P13.1: one operand alone.
func TestNoOperator(t *testing.T) {
	faults(t, map[string]api.Fault{
		"(": {Err: short, At: 1}, "( ": {Err: form, At: 1}, "()": {Err: form, At: 1}, "( )": {Err: form, At: 1}, "(a": {Err: short, At: 2}, "(a ": {Err: short, At: 3}, "(a)": {Err: form, At: 2}, "(a )": {Err: form, At: 3}, "(a  ) ": {Err: form, At: 4}, "(a = 1)": {Err: form, At: 6}, "(a = 1 )": {Err: form, At: 7}, "((a or b))": {Err: form, At: 9}, "((a or b) )": {Err: form, At: 10}, "((a))": {Err: form, At: 3}, "(a (b or c))": {Err: form, At: 3}, "((a or b)(c or d))": {Err: form, At: 9}, "((a or b) (c or d))": {Err: form, At: 10}, "(a or)": {Err: form, At: 5}, "(or a)": {Err: word, At: 4}, "(or)": {Err: form, At: 3}, "(a or or": {Err: short, At: 8},
	})
	reads(t, map[string]api.Rich{"(a or or)": or(is("a"), is("or"))})
}

// P13.1: else behind each operator.
func TestElse(t *testing.T) {
	a, b, c := is("a"), is("b"), is("c")
	for op, w := range operators() {
		s := "(a " + w + " b else c"
		if op != api.RiIf && op != api.RiUnless {
			faults(t, map[string]api.Fault{s + ")": {Err: word, At: 6 + len(w)}, s[:10+len(w)]: {Err: word, At: 6 + len(w)}})
			continue
		}
		want := of(op, a, b, c)
		reads(t, map[string]api.Rich{s + ")": want, s + " )": want, strings.ReplaceAll(s, " ", "\t ") + ")": want, "(a " + w + " b else (c or a))": of(op, a, b, or(c, a)), "(a " + w + " (a " + w + " b else c) else c)": of(op, a, want, c), "(" + s + ") " + w + " b else c)": of(op, want, b, c), "(a " + w + " b else " + s + "))": of(op, a, b, want)})
		at := len(s) + 1
		for _, other := range []string{"else", "if", "unless", "and", "or", "with", "without", "x"} {
			faults(t, map[string]api.Fault{s + " " + other + " d)": {Err: word, At: at}, s + " " + other: {Err: word, At: at}, s + " " + other + ")": {Err: word, At: at}, s[:len(s)-1] + "(c or d) " + other + " d)": {Err: word, At: at + 7}})
		}
		at = len("(a " + w + " b else")
		faults(t, map[string]api.Fault{
			s: {Err: short, At: len(s)}, s[:at]: {Err: short, At: at}, s[:at] + " ": {Err: short, At: at + 1}, s[:at] + ")": {Err: form, At: at}, s[:at] + " )": {Err: form, At: at + 1}, s[:at] + "(c or d))": {Err: form, At: at}, s[:at-1]: {Err: word, At: at - 4}, s[:at] + "x c)": {Err: word, At: at - 4}, "((a or b) " + w + " (a or b)else c)": {Err: form, At: 19 + len(w)}, s + " (a or b))": {Err: form, At: len(s) + 1}, s[:len(s)-1] + "(c or d)(a or b))": {Err: form, At: len(s) + 7}, s[:len(s)-1] + "(c or d)x": {Err: form, At: len(s) + 7},
		})
	}
	faults(t, map[string]api.Fault{"(a else b)": {Err: word, At: 3}, "(a else": {Err: word, At: 3}, "(else else else)": {Err: word, At: 6}})
}

// P13.1: words that are no operators, whatever bytes they are of.
func TestWords(t *testing.T) {
	for _, w := range []string{"x", "nand", "an", "andd", "AND", "And", "orr", "o", "iff", "unles", "wit", "witho", "withoutt", "els", "else", "not", "xor", "&", "|", "&&", ",", "!", "a,b", "and,", "or\n", "\n", "\x00", "\x7f", "\xff", "\u00e9", "or\xa0b", "1", "!=", "and<", "or=", strings.Repeat("x", 200)} {
		for _, ahead := range []string{"(a ", "(a \t", "((a or b) ", "(a = 1 ", "(a and b ", "(a or b or c ", "(a without b ", "(a with b = 1 ", "(a if b else c\t", "(x and (a "} {
			for _, behind := range []string{"", " ", " b)", ")", "(", " \x00", "(b or c))"} {
				faults(t, map[string]api.Fault{ahead + w + behind: {Err: word, At: len(ahead)}})
			}
		}
	}
	// Behind the last operand there can be, any word is one too many.
	for _, w := range []string{"and", "or", "if", "unless", "with", "without", "else", "x"} {
		for _, ahead := range []string{"(a without b ", "(a without b = 1 ", "(a if b else c ", "(a unless b else c ", "(a if b else (c or d) ", "(a or (a without b  "} {
			for _, behind := range []string{"", " ", " b)", ")", "(", "\t(b or c))"} {
				faults(t, map[string]api.Fault{ahead + w + behind: {Err: word, At: len(ahead)}})
			}
		}
	}
}

// P13.1: operands that are rich ones, of each operator.
func TestRichOperands(t *testing.T) {
	a, b, ab := is("a"), is("b"), or(is("x"), is("y"))
	for op, w := range operators() {
		at := len("(a " + w + " ")
		if op != api.RiWith && op != api.RiWithout {
			reads(t, map[string]api.Rich{"((x or y) " + w + " b)": of(op, ab, b), "(a " + w + " (x or y))": of(op, a, ab), "(a " + w + " (x or y) )": of(op, a, ab), "((x or y) " + w + " (x or y))": of(op, ab, ab)})
			continue
		}
		faults(t, map[string]api.Fault{
			"(a " + w + " (x or y))": {Err: kind, At: at}, "(a " + w + " (x with y))": {Err: kind, At: at}, "(a " + w + "\t (x or y))": {Err: kind, At: at + 1}, "(a " + w + " (": {Err: kind, At: at}, "(a " + w + " (x": {Err: kind, At: at}, "(a " + w + " ()": {Err: kind, At: at}, "(a " + w + " (\x00": {Err: kind, At: at}, "(a = 1 " + w + " (b))": {Err: kind, At: at + 4},
			// The first one is told as soon as the operator is read, at its own place.
			"((x or y) " + w + " b)": {Err: kind, At: 1}, "((x or y) " + w + " (x or y))": {Err: kind, At: 1}, "((x or y) " + w: {Err: kind, At: 1}, "((x or y) " + w + " ": {Err: kind, At: 1}, "((x or y) " + w + ")": {Err: kind, At: 1}, "((x or y) " + w + "(": {Err: kind, At: 1}, "((x or y) " + w + " \x00": {Err: kind, At: 1}, "((x with y)\t" + w + " b)": {Err: kind, At: 1}, "  ((x or y) " + w + " b)": {Err: kind, At: 3}, "(a and ((x or y) " + w + " b))": {Err: kind, At: 8}, "(((x or y) and b) " + w + " a)": {Err: kind, At: 1},
			// Where it is not read, the operand's own fault is told, or what else stands there.
			"((x xx y) " + w + " b)": {Err: word, At: 4}, "((x or y)" + w + " b)": {Err: form, At: 9}, "((x or y) " + w + "x b)": {Err: word, At: 10}, "((x or y " + w + " b)": {Err: word, At: 9},
		})
	}
	faults(t, map[string]api.Fault{"(a with b with (c or d))": {Err: kind, At: 15}, "(a with b with c with (": {Err: kind, At: 22}, "(a without b (c or d))": {Err: form, At: 13}})
	reads(t, map[string]api.Rich{"(a with b(x) with c)": with(a, is("b(x)"), is("c")), "(a(x) without b(x))": without(is("a(x)"), is("b(x)"))})
}

// nested is so many rich ones within one another around a name, at the first operand or at the second one: its text and what it is read as.
func nested(name string, depth int, first bool) (string, api.Rich) {
	s, r := name, is(name)
	for range depth {
		if first {
			s, r = "("+s+" or b)", or(r, is("b"))
		} else {
			s, r = "(b or "+s+")", or(is("b"), r)
		}
	}
	return s, r
}

// P13.1: eight and nine parentheses within one another.
func TestDepth(t *testing.T) {
	for depth := range 8 {
		for _, first := range []bool{true, false} {
			// Those within names do not count, nor do those that are closed.
			for _, name := range []string{"a", "a(((((((((x)))))))))"} {
				s, r := nested(name, depth+1, first)
				reads(t, map[string]api.Rich{s: r, "  " + s: r})
				s, r = nested(name, depth, first)
				reads(t, map[string]api.Rich{"(" + s + " or " + s + " or " + s + ")": or(r, r, r)})
			}
		}
	}
	for depth := 9; depth <= 12; depth++ {
		s, _ := nested("a", depth, true)
		faults(t, map[string]api.Fault{s: {Err: deep, At: 8}, " " + s: {Err: deep, At: 9}})
		s, _ = nested("a", depth, false)
		faults(t, map[string]api.Fault{s: {Err: deep, At: 48}})
	}
	opens := strings.Repeat("(", 8)
	faults(t, map[string]api.Fault{
		opens: {Err: short, At: 8}, opens + "a": {Err: short, At: 9}, opens + ")": {Err: form, At: 8}, opens + " (": {Err: form, At: 8}, opens + "(": {Err: deep, At: 8}, opens + "(a or b)": {Err: deep, At: 8}, opens + "()": {Err: deep, At: 8}, opens + "a or (": {Err: deep, At: 13}, opens + "a with (": {Err: deep, At: 15}, opens + "a without (b": {Err: deep, At: 18}, opens + "a or b) with c)": {Err: kind, At: 7}, opens + "a or b) or (a or (": {Err: deep, At: 25}, opens[:7] + "a with (": {Err: kind, At: 14}, strings.Repeat("(", 256): {Err: deep, At: 8},
	})
}

// P13.1: the 32nd and the 33rd capability.
func TestMostCapabilities(t *testing.T) {
	for op, w := range map[int]string{api.RiAnd: "and", api.RiOr: "or", api.RiWith: "with"} {
		s := "(a" + strings.Repeat(" "+w+" a", 31)
		want := of(op, slices.Repeat(named("a"), 32)...)
		reads(t, map[string]api.Rich{s + ")": want, s + " )": want, s[:len(s)-1] + "a = 1)": of(op, append(slices.Repeat(named("a"), 31), has("a", "=", "1"))...)})
		next := s + " " + w + " "
		for _, b := range []string{"a", "a)", "aa", strings.Repeat("a", 20), "<", "=", ">", ")", "\x00", "\x7f", "\xff", "!", "a(", "a b", "a = !"} {
			faults(t, map[string]api.Fault{next + b: {Err: long, At: len(next)}, next + "\t" + b: {Err: long, At: len(next) + 1}})
		}
		faults(t, map[string]api.Fault{
			next: {Err: short, At: len(next)}, s + " " + w: {Err: short, At: len(next) - 1}, s + " " + w + ")": {Err: form, At: len(next) - 1}, s + " x a": {Err: word, At: len(s) + 1}, s + "\x00": {Err: form, At: len(s)}, s + " = !)": {Err: version, At: len(s) + 3}, s: {Err: short, At: len(s)},
		})
		if op == api.RiWith {
			// With a ( a rich one begins, no capability.
			faults(t, map[string]api.Fault{next + "(": {Err: kind, At: len(next)}, next + "(a or b))": {Err: kind, At: len(next)}})
			continue
		}
		faults(t, map[string]api.Fault{next + "(": {Err: short, At: len(next) + 1}, next + "(a or b))": {Err: long, At: len(next) + 1}, next + "( ": {Err: long, At: len(next) + 1}, next + "(((<": {Err: long, At: len(next) + 3}, next + strings.Repeat("(", 8): {Err: deep, At: len(next) + 7}})
	}
	// They count in all rich ones together.
	part := "(a" + strings.Repeat(" or a", 9) + ")"
	ten := or(slices.Repeat(named("a"), 10)...)
	s := "(" + part + " and " + part + " and " + part + " and b"
	reads(t, map[string]api.Rich{s + " and c)": and(ten, ten, ten, is("b"), is("c"))})
	faults(t, map[string]api.Fault{s + " and c and d)": {Err: long, At: len(s) + 11}, s + " and (c or d))": {Err: long, At: len(s) + 11}, s + " and c or d)": {Err: word, At: len(s) + 7}})
}

// P13.1: bytes behind the end.
func TestBehindTheEnd(t *testing.T) {
	for _, s := range []string{"(a or b)", "(a or (b and c))", "(a without b = 1 )", " (a if b else c)"} {
		for _, b := range []string{"", " ", "\t  "} {
			for _, behind := range []string{")", "(", "x", "= 1", "or c", "and", "(a or b)", "\x00", "\n", "\xff", "<"} {
				faults(t, map[string]api.Fault{s + b + behind: {Err: form, At: len(s + b)}})
			}
		}
	}
	for _, s := range []string{"a", "a(b)", "a = 1"} {
		for _, behind := range []string{")", "(", "x", "or c", "and", "(a or b)", "\x00", "\n", "\xff", "a = 1"} {
			faults(t, map[string]api.Fault{s + " " + behind: {Err: form, At: len(s) + 1}, s + "\t \t" + behind: {Err: form, At: len(s) + 3}})
		}
	}
}

// P13.1: texts that end at each place: o is a dependency, s too short; of w a word is cut off, of v an EVR, which stand ahead of the text's end.
func TestEnds(t *testing.T) {
	for s, marks := range map[string]string{
		"a <= 1:2-3":             "soosssovovo",
		"perl(Foo(x)) = 1":       "soooosssssssoosso",
		" (aa or b(x) = 1 or c)": "sssssswssssssssssswssso",
		"(a without b)":          "sssswwwswwssso",
		"(a with b with c\t)":    "sssswwwsssswwwsssso",
		"((a with b) and (d unless e else f > 1-2) )\t": "ssssswwwssssswwssssswwwwwsssswwwsssssssvsssoo",
	} {
		if len(marks) != len(s)+1 {
			t.Fatalf("%d marks of %q", len(marks), s)
		}
		for end, mark := range marks {
			at := strings.LastIndexAny(s[:end], " (") + 1
			want := map[rune]api.Fault{'o': {}, 's': {Err: short, At: end}, 'w': {Err: word, At: at}, 'v': {Err: version, At: at}}[mark]
			if r, f := rich.Parse(s[:end]); f != want || rich.Fit(r) != (mark == 'o') {
				t.Errorf("Parse(%q) = %+v, %v, not %v", s[:end], r, f, want)
			}
		}
	}
}

// P13.1: of several faults the first one is told.
func TestFirstFault(t *testing.T) {
	most := strings.Repeat("a", 48)
	faults(t, map[string]api.Fault{
		"(a xx b yy": {Err: word, At: 3}, "(a = ! xx b)": {Err: version, At: 5}, "(a xx b = !)": {Err: word, At: 3}, "(a == !": {Err: form, At: 4}, "(" + most + "b = !": {Err: long, At: 49}, "(a = ! or " + most + "b)": {Err: version, At: 5}, "(a with (b xx c))": {Err: kind, At: 8}, "((a xx b) with (c or d))": {Err: word, At: 4}, "(a = ! with (b or c))": {Err: version, At: 5}, "(a with (b or c) xx": {Err: kind, At: 8}, "a = ! \x00": {Err: version, At: 4}, "a( = !": {Err: form, At: 2}, "(a( or b xx c)": {Err: form, At: 3}, "((a or b) with c = !": {Err: kind, At: 1}, "(a without b without (c or d))": {Err: word, At: 13}, "(a or b)) xx": {Err: form, At: 8}, "(a or b) = !": {Err: form, At: 9},
		strings.Repeat("(", 8) + "a xx (": {Err: word, At: 10}, strings.Repeat("(", 8) + "a = ! or (": {Err: version, At: 12}, strings.Repeat("(", 9) + "a = !": {Err: deep, At: 8}, "(a" + strings.Repeat(" or a", 30) + " or " + most + "a or a)": {Err: long, At: 204}, "(a" + strings.Repeat(" or a", 31) + " or " + most + "a)": {Err: long, At: 161}, "(a" + strings.Repeat(" or a", 31) + " xx a)": {Err: word, At: 158},
	})
}
