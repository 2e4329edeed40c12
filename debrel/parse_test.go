package debrel_test

import (
	"slices"
	"strings"
	"testing"

	"dovetail/api"
	"dovetail/deb"
	"dovetail/debrel"
)

const (
	form  = api.ErrForm
	short = api.ErrShort
	long  = api.ErrLong
)

func same(a, b [][]api.DebAlt) bool {
	return slices.EqualFunc(a, b, func(a, b []api.DebAlt) bool { return slices.EqualFunc(a, b, sameAlt) })
}

func sameAlt(a, b api.DebAlt) bool {
	return a.Name == b.Name && a.Arch == b.Arch && a.Op == b.Op && a.Ver == b.Ver && slices.Equal(a.Archs, b.Archs) && slices.EqualFunc(a.Profs, b.Profs, slices.Equal[[]api.DebTerm])
}

// all is a relation of some groups.
func all(groups ...[]api.DebAlt) [][]api.DebAlt { return groups }

// one is a group of some alternatives.
func one(l ...api.DebAlt) []api.DebAlt { return l }

// named is alternatives of names alone.
func named(names ...string) []api.DebAlt {
	var l []api.DebAlt
	for _, name := range names {
		l = append(l, api.DebAlt{Name: name})
	}
	return l
}

// terms is terms as they are written.
func terms(words ...string) []api.DebTerm {
	var l []api.DebTerm
	for _, w := range words {
		name, not := strings.CutPrefix(w, "!")
		l = append(l, api.DebTerm{Not: not, Name: name})
	}
	return l
}

// reads checks what texts are read as.
func reads(t *testing.T, wanted map[string][][]api.DebAlt) {
	t.Helper()
	for s, want := range wanted {
		if l, f := debrel.Parse(s); f != (api.Fault{}) || !same(l, want) {
			t.Errorf("Parse(%q) = %+v, %v, not %+v", s, l, f, want)
		}
	}
}

// faults checks where texts go wrong.
func faults(t *testing.T, wanted map[string]api.Fault) {
	t.Helper()
	for s, want := range wanted {
		if l, f := debrel.Parse(s); f != want || len(l) > 0 {
			t.Errorf("Parse(%q) = %+v, %v, not %v", s, l, f, want)
		}
	}
}

// everyOperator is the chapter's list.
func everyOperator() []string { return []string{"<<", "<=", "=", ">=", ">>"} }

// P12.1: the chapter's examples, and relations of all parts.
func TestRelations(t *testing.T) {
	reads(t, map[string][][]api.DebAlt{
		"libc6 (>= 2.14), aa | bb:any [!amd64 !i386] <!nocheck>": all(
			one(api.DebAlt{Name: "libc6", Op: ">=", Ver: "2.14"}),
			one(api.DebAlt{Name: "aa"}, api.DebAlt{Name: "bb", Arch: "any", Archs: terms("!amd64", "!i386"), Profs: [][]api.DebTerm{terms("!nocheck")}}),
		),
		"aa":            all(named("aa")),
		"aa,bb":         all(named("aa"), named("bb")),
		"aa|bb":         all(named("aa", "bb")),
		"aa|bb,cc|dd":   all(named("aa", "bb"), named("cc", "dd")),
		"aa,bb|cc,dd":   all(named("aa"), named("bb", "cc"), named("dd")),
		"bb,aa,bb|bb":   all(named("bb"), named("aa"), named("bb", "bb")),
		"aa,bb,cc,dd":   all(named("aa"), named("bb"), named("cc"), named("dd")),
		"aa:any":        all(one(api.DebAlt{Name: "aa", Arch: "any"})),
		"aa (= 1)":      all(one(api.DebAlt{Name: "aa", Op: "=", Ver: "1"})),
		"aa [x]":        all(one(api.DebAlt{Name: "aa", Archs: terms("x")})),
		"aa <x>":        all(one(api.DebAlt{Name: "aa", Profs: [][]api.DebTerm{terms("x")}})),
		"aa:x [y]":      all(one(api.DebAlt{Name: "aa", Arch: "x", Archs: terms("y")})),
		"aa:x <y>":      all(one(api.DebAlt{Name: "aa", Arch: "x", Profs: [][]api.DebTerm{terms("y")}})),
		"aa (= 1) <x>":  all(one(api.DebAlt{Name: "aa", Op: "=", Ver: "1", Profs: [][]api.DebTerm{terms("x")}})),
		"aa <x>|bb [y]": all(one(api.DebAlt{Name: "aa", Profs: [][]api.DebTerm{terms("x")}}, api.DebAlt{Name: "bb", Archs: terms("y")})),
		"aa <x>,bb <y>": all(one(api.DebAlt{Name: "aa", Profs: [][]api.DebTerm{terms("x")}}), one(api.DebAlt{Name: "bb", Profs: [][]api.DebTerm{terms("y")}})),
		"aa:x(<<1:2-3)[y z]<!p q><r>|bb": all(one(
			api.DebAlt{Name: "aa", Arch: "x", Op: "<<", Ver: "1:2-3", Archs: terms("y", "z"), Profs: [][]api.DebTerm{terms("!p", "q"), terms("r")}},
			api.DebAlt{Name: "bb"},
		)),
	})
	faults(t, map[string]api.Fault{
		"aa (>= 1": {Err: short, At: 8}, "aa (> 1)": {Err: form, At: 5}, "aa,,bb": {Err: form, At: 3}, "A": {Err: form, At: 0}, "a,bb": {Err: form, At: 1}, "aa [x !y]": {Err: form, At: 6}, "aa ()": {Err: form, At: 4},
	})
}

// P12.1: nothing, and blanks alone.
func TestNothing(t *testing.T) {
	for _, s := range []string{"", " ", "\t", "\n", "\r", " \t\n\r", "\r\n\r\n", strings.Repeat("\n", 255)} {
		reads(t, map[string][][]api.DebAlt{s: nil})
		faults(t, map[string]api.Fault{s + ",": {Err: form, At: len(s)}, s + "|": {Err: form, At: len(s)}, s + "\v": {Err: form, At: len(s)}, s + "\f": {Err: form, At: len(s)}, s + "\x00": {Err: form, At: len(s)}, s + "\xa0": {Err: form, At: len(s)}})
	}
	reads(t, map[string][][]api.DebAlt{strings.Repeat("\r", 256): nil})
	faults(t, map[string]api.Fault{strings.Repeat(" ", 257): {Err: long, At: 256}})
}

// P12.1: the bytes of a relation.
func TestLength(t *testing.T) {
	blanks := strings.Repeat(" ", 256)
	reads(t, map[string][][]api.DebAlt{
		blanks[:254] + "aa":                       all(named("aa")),
		"aa" + blanks[:254]:                       all(named("aa")),
		"aa," + blanks[:251] + "bb":               all(named("aa"), named("bb")),
		"aa [" + blanks[:250] + "x]":              all(one(api.DebAlt{Name: "aa", Archs: terms("x")})),
		"aa <x" + strings.Repeat(" x", 125) + ">": all(one(api.DebAlt{Name: "aa", Profs: [][]api.DebTerm{slices.Repeat(terms("x"), 126)}})),
	})
	if s := "aa <x" + strings.Repeat(" x", 125) + ">"; len(s) != 256 {
		t.Fatal(len(s))
	}
	faults(t, map[string]api.Fault{
		blanks + "aa":              {Err: long, At: 256},
		"aa" + blanks[:255]:        {Err: long, At: 256},
		"A" + blanks:               {Err: long, At: 256},
		",," + blanks:              {Err: long, At: 256},
		strings.Repeat("a", 257):   {Err: long, At: 256},
		strings.Repeat("a", 256):   {Err: long, At: 48},
		strings.Repeat("(", 1<<18): {Err: long, At: 256},
		blanks[:255] + "a":         {Err: short, At: 256},
		blanks[:253] + "aa,":       {Err: short, At: 256},
		"aa (" + blanks[:252]:      {Err: short, At: 256},
		"aa" + blanks[:253] + "b":  {Err: form, At: 255},
		"aa,," + blanks[:252]:      {Err: form, At: 3},
		"aa" + blanks[:253] + ",b": {Err: long, At: 256},
	})
}

// P12.1: names of each length, and of each byte.
func TestNamesInRelations(t *testing.T) {
	for c := range 256 {
		b := string([]byte{byte(c)})
		first := '0' <= c && c <= '9' || 'a' <= c && c <= 'z'
		behind := first || c == '+' || c == '-' || c == '.'
		if first {
			reads(t, map[string][][]api.DebAlt{b + "a": all(named(b + "a")), "xx," + b + "9": all(named("xx"), named(b+"9")), b + b + b: all(named(b + b + b))})
			faults(t, map[string]api.Fault{b: {Err: short, At: 1}, " " + b: {Err: short, At: 2}, b + ",": {Err: form, At: 1}, b + " ": {Err: form, At: 1}, "xx|" + b: {Err: short, At: 4}, b + "A": {Err: form, At: 1}, b + ":x": {Err: form, At: 1}, b + "(": {Err: form, At: 1}, b + "[x]": {Err: form, At: 1}, b + "<x>": {Err: form, At: 1}, b + "|aa": {Err: form, At: 1}})
		} else if !strings.Contains(" \t\n\r", b) {
			faults(t, map[string]api.Fault{b: {Err: form, At: 0}, b + "a": {Err: form, At: 0}, " " + b + "aa": {Err: form, At: 1}, "xx," + b: {Err: form, At: 3}, "xx| " + b + "aa": {Err: form, At: 4}})
		}
		if behind {
			reads(t, map[string][][]api.DebAlt{"a" + b: all(named("a" + b)), "a" + b + b: all(named("a" + b + b)), "a" + b + "b|x" + b: all(named("a"+b+"b", "x"+b)), "0" + b + "(= 1)": all(one(api.DebAlt{Name: "0" + b, Op: "=", Ver: "1"}))})
		} else {
			faults(t, map[string]api.Fault{"a" + b: {Err: form, At: 1}, "a" + b + "b": {Err: form, At: 1}, "xx,a" + b + "b": {Err: form, At: 4}})
		}
	}
	most := "a" + strings.Repeat("+-.9z", 9) + "bc"
	if len(most) != 48 {
		t.Fatal(len(most))
	}
	reads(t, map[string][][]api.DebAlt{
		most: all(named(most)), " " + most + " ": all(named(most)), most + "," + most + "|" + most: all(named(most), named(most, most)),
		most + ":any": all(one(api.DebAlt{Name: most, Arch: "any"})), most + "(= 1)": all(one(api.DebAlt{Name: most, Op: "=", Ver: "1"})),
	})
	for _, b := range []string{"a", "0", "+", "-", "."} {
		faults(t, map[string]api.Fault{most + b: {Err: long, At: 48}, "  " + most + b + "A": {Err: long, At: 50}, "aa," + most + b + b + b: {Err: long, At: 51}, most + "|" + most + b + ",,": {Err: long, At: 97}})
	}
	for _, b := range []string{"A", "_", "!", "\x00", "\xff", ")", "]", ">", "/", "~"} {
		faults(t, map[string]api.Fault{most + b: {Err: form, At: 48}, "aa | " + most + b: {Err: form, At: 53}, most[:47] + b + "a": {Err: form, At: 47}})
	}
}

// P12.1: architectures behind a name, and blanks around the ":".
func TestArchitectures(t *testing.T) {
	for c := range 256 {
		b := string([]byte{byte(c)})
		first := '0' <= c && c <= '9' || 'a' <= c && c <= 'z'
		if first {
			reads(t, map[string][][]api.DebAlt{"aa:" + b: all(one(api.DebAlt{Name: "aa", Arch: b})), "aa:" + b + b + "|bb": all(one(api.DebAlt{Name: "aa", Arch: b + b}, api.DebAlt{Name: "bb"}))})
		} else {
			faults(t, map[string]api.Fault{"aa:" + b: {Err: form, At: 3}, "aa:" + b + "x": {Err: form, At: 3}})
		}
		if first || c == '-' {
			reads(t, map[string][][]api.DebAlt{"aa:x" + b: all(one(api.DebAlt{Name: "aa", Arch: "x" + b})), "aa:x" + b + "y(= 1)": all(one(api.DebAlt{Name: "aa", Arch: "x" + b + "y", Op: "=", Ver: "1"}))})
		} else if !strings.Contains(" \t\n\r,|([<", b) {
			faults(t, map[string]api.Fault{"aa:x" + b: {Err: form, At: 4}, "aa:x" + b + "y": {Err: form, At: 4}, "aa:x " + b: {Err: form, At: 5}})
		}
	}
	most := strings.Repeat("x-9", 16)
	reads(t, map[string][][]api.DebAlt{"aa:" + most: all(one(api.DebAlt{Name: "aa", Arch: most})), "aa:" + most + " ,bb:x": all(one(api.DebAlt{Name: "aa", Arch: most}), one(api.DebAlt{Name: "bb", Arch: "x"}))})
	faults(t, map[string]api.Fault{
		"aa:" + most + "x": {Err: long, At: 51}, "aa:" + most + "-": {Err: long, At: 51}, " aa:" + most + "xA": {Err: long, At: 52}, "aa:" + most + "+": {Err: form, At: 51}, "aa:" + most + ".": {Err: form, At: 51},
		"aa:": {Err: short, At: 3}, "aa :any": {Err: form, At: 3}, "aa\n:any": {Err: form, At: 3}, "aa: any": {Err: form, At: 3}, "aa:\tany": {Err: form, At: 3}, "aa: ": {Err: form, At: 3}, "aa : any": {Err: form, At: 3}, "aa :": {Err: form, At: 3}, "aa::x": {Err: form, At: 3}, "aa:x:y": {Err: form, At: 4}, "aa:x :y": {Err: form, At: 5}, "aa:,bb": {Err: form, At: 3}, "aa:|bb": {Err: form, At: 3}, "aa:!x": {Err: form, At: 3}, "aa:-x": {Err: form, At: 3}, "aa:(= 1)": {Err: form, At: 3}, "aa:x y": {Err: form, At: 5}, ":x": {Err: form, At: 0}, "aa (= 1):x": {Err: form, At: 8}, "aa [x]:y": {Err: form, At: 6}, "aa <x>:y": {Err: form, At: 6},
	})
}

// P12.1: operators, with blanks behind them and without.
func TestOperators(t *testing.T) {
	for _, op := range everyOperator() {
		want := all(one(api.DebAlt{Name: "aa", Op: op, Ver: "1"}))
		reads(t, map[string][][]api.DebAlt{"aa (" + op + " 1)": want, "aa(" + op + "1)": want, "aa\n(\t" + op + "\r 1\n)": want})
		at := 4 + len(op)
		faults(t, map[string]api.Fault{
			"aa (" + op: {Err: short, At: at}, "aa (" + op + " ": {Err: short, At: at + 1}, "aa (" + op + ")": {Err: form, At: at}, "aa (" + op + " )": {Err: form, At: at + 1}, "aa (" + op + " \t\n),bb": {Err: form, At: at + 3},
			"aa (" + op + "=1)": {Err: form, At: at}, "aa (" + op + "<1)": {Err: form, At: at}, "aa (" + op + ">1)": {Err: form, At: at}, "aa (" + op + " " + op + " 1)": {Err: form, At: at + 1}, "aa (" + op + ",": {Err: form, At: at}, "aa (" + op + "]": {Err: form, At: at},
		})
	}
	faults(t, map[string]api.Fault{
		"aa (": {Err: short, At: 4}, "aa ( \n": {Err: short, At: 6}, "aa (<": {Err: short, At: 5}, "aa (>": {Err: short, At: 5}, "aa ( >": {Err: short, At: 6},
		"aa (< 1)": {Err: form, At: 5}, "aa (> 1)": {Err: form, At: 5}, "aa (<1)": {Err: form, At: 5}, "aa (>1)": {Err: form, At: 5}, "aa (<)": {Err: form, At: 5}, "aa (>)": {Err: form, At: 5}, "aa (<>1)": {Err: form, At: 5}, "aa (><1)": {Err: form, At: 5}, "aa (< =1)": {Err: form, At: 5}, "aa (> >1)": {Err: form, At: 5}, "aa (<\n<1)": {Err: form, At: 5},
		"aa (=<1)": {Err: form, At: 5}, "aa (=>1)": {Err: form, At: 5}, "aa (==1)": {Err: form, At: 5}, "aa (= =1)": {Err: form, At: 6}, "aa (<<<1)": {Err: form, At: 6}, "aa (<<=1)": {Err: form, At: 6}, "aa (>>=1)": {Err: form, At: 6},
		"aa (1)": {Err: form, At: 4}, "aa ( 1)": {Err: form, At: 5}, "aa (!= 1)": {Err: form, At: 4}, "aa (~1)": {Err: form, At: 4}, "aa (x)": {Err: form, At: 4}, "aa (())": {Err: form, At: 4}, "aa (,": {Err: form, At: 4}, "aa ( )": {Err: form, At: 5}, "aa )": {Err: form, At: 3}, "aa = 1": {Err: form, At: 3}, "aa >= 1": {Err: form, At: 3}, "aa=1": {Err: form, At: 2}, "(= 1)": {Err: form, At: 0},
	})
}

// P12.1: versions, each fault of chapter 4, and where a version ends.
func TestVersions(t *testing.T) {
	longest := "1" + strings.Repeat("+", 63)
	for _, v := range []string{"1", "0", "1.0-1", "1:2:3-4", "2.14~rc1+b1", "1.Z", "007", longest} {
		want := all(one(api.DebAlt{Name: "aa", Op: ">=", Ver: v}))
		reads(t, map[string][][]api.DebAlt{"aa (>= " + v + ")": want, "aa(>=" + v + " )": want, "aa(>=" + v + "\n\t)": want, "aa (>=\r" + v + ") ": want})
		faults(t, map[string]api.Fault{"aa (>= " + v: {Err: short, At: 7 + len(v)}, "aa (>= " + v + " ": {Err: short, At: 8 + len(v)}, "aa(>=" + v + "\r\n": {Err: short, At: 7 + len(v)}, "aa(>=" + v + " 1)": {Err: form, At: 6 + len(v)}, "aa(>=" + v + " ,": {Err: form, At: 6 + len(v)}, "aa(>=" + v + "\tx": {Err: form, At: 6 + len(v)}, "aa(>=" + v + "))": {Err: form, At: 6 + len(v)}})
	}
	for _, v := range []string{
		"a1", "-1", ":1", "~", "_", "1_2", "1a:1", "1::2", "1:a", "1:-", "1\v", "1\x00", "1\xff", "1(", "1,", "1,2", "1|2", "1[", "1]", "1<", "1>", "1!", "=1", "(", ",", "\xc3\xa9",
		"1:", "00:", "1-", "1--", "1:2-", "1:2-3:4", "1:2-:", "1:2-3:",
		longest + "1", longest + "_", "_" + longest, longest + strings.Repeat(":", 100), "1:2-3:4,", "1:2-3:4|x",
	} {
		_, f := deb.Parse(v)
		if f.Err == api.OK {
			t.Fatalf("%q has no fault", v)
		}
		for _, ahead := range []string{"aa (>= ", "bb,aa(=", "aa:x ( <<\n\t"} {
			for _, behind := range []string{"", " ", ")", " )", ") [", "\n\r)", "\tx", "),,"} {
				faults(t, map[string]api.Fault{ahead + v + behind: {Err: f.Err, At: len(ahead) + f.At}})
			}
		}
	}
	faults(t, map[string]api.Fault{"aa (= 1:)": {Err: short, At: 8}, "aa (= 1-,)": {Err: form, At: 8}, "aa (= 1 -2)": {Err: form, At: 8}, "aa (= 1: 2)": {Err: short, At: 8}, "aa (= 1. 2)": {Err: form, At: 9}})
}

// P12.1: terms in brackets of both kinds: none, one, several, with "!" and without.
func TestTerms(t *testing.T) {
	most := "0" + strings.Repeat("-x9", 15) + "-z"
	if len(most) != 48 {
		t.Fatal(len(most))
	}
	for _, pair := range []string{"[]", "<>"} {
		open, closing := pair[:1], pair[1:]
		alt := func(words ...string) [][]api.DebAlt {
			if open == "[" {
				return all(one(api.DebAlt{Name: "aa", Archs: terms(words...)}))
			}
			return all(one(api.DebAlt{Name: "aa", Profs: [][]api.DebTerm{terms(words...)}}))
		}
		for _, words := range [][]string{{"x"}, {"!x"}, {"x", "y"}, {"!x", "!y"}, {"x", "x", "x"}, {"0", "9-", "z-0-"}, {"!" + most, "!0"}, {most}, {"a", "b", "c", "d", "e"}} {
			for _, b := range []string{" ", "\t", "\n", "\r", "  \r\n"} {
				reads(t, map[string][][]api.DebAlt{"aa " + open + strings.Join(words, b) + closing: alt(words...), "aa" + b + open + b + strings.Join(words, b) + b + closing + b: alt(words...)})
			}
		}
		faults(t, map[string]api.Fault{
			"aa " + open: {Err: short, At: 4}, "aa " + open + " ": {Err: short, At: 5}, "aa " + open + "!": {Err: short, At: 5}, "aa " + open + "x": {Err: short, At: 5}, "aa " + open + "!x": {Err: short, At: 6}, "aa " + open + "x ": {Err: short, At: 6}, "aa " + open + "!x\n": {Err: short, At: 7}, "aa " + open + "!x !": {Err: short, At: 8}, "aa " + open + "x y": {Err: short, At: 7},
			"aa " + open + closing: {Err: form, At: 4}, "aa " + open + " " + closing: {Err: form, At: 5}, "aa " + open + "!" + closing: {Err: form, At: 5}, "aa " + open + "! x" + closing: {Err: form, At: 5}, "aa " + open + "! ": {Err: form, At: 5}, "aa " + open + "!\nx": {Err: form, At: 5}, "aa " + open + "!x ! y": {Err: form, At: 8}, "aa " + open + "!!x": {Err: form, At: 5}, "aa " + open + "!-x": {Err: form, At: 5},
			"aa " + open + "x!y" + closing: {Err: form, At: 5}, "aa " + open + "!x!y" + closing: {Err: form, At: 6}, "aa " + open + "x,y" + closing: {Err: form, At: 5}, "aa " + open + "x ,": {Err: form, At: 6}, "aa " + open + "x|": {Err: form, At: 5}, "aa " + open + "-": {Err: form, At: 4}, "aa " + open + "x+": {Err: form, At: 5}, "aa " + open + "x.y": {Err: form, At: 5}, "aa " + open + "+": {Err: form, At: 4}, "aa " + open + "X": {Err: form, At: 4}, "aa " + open + "xY": {Err: form, At: 5}, "aa " + open + "x:y": {Err: form, At: 5}, "aa " + open + "x_": {Err: form, At: 5}, "aa " + open + "x(": {Err: form, At: 5}, "aa " + open + "x)": {Err: form, At: 5}, "aa " + open + "\xff": {Err: form, At: 4}, "aa " + open + "x" + open: {Err: form, At: 5}, "aa " + open + open: {Err: form, At: 4}, "aa " + open + "(": {Err: form, At: 4}, "aa " + open + ",": {Err: form, At: 4},
			"aa " + open + most + "x": {Err: long, At: 52}, "aa " + open + "!" + most + "-": {Err: long, At: 53}, "aa " + open + "x " + most + "9" + closing: {Err: long, At: 54}, "aa " + open + most + "+": {Err: form, At: 52}, "aa " + open + most + ".": {Err: form, At: 52},
			"aa " + closing: {Err: form, At: 3}, "aa " + open + "x" + closing + closing: {Err: form, At: 6}, "aa " + open + "x" + closing + "y": {Err: form, At: 6}, "aa " + open + "x" + closing + " y": {Err: form, At: 7}, open + "x" + closing: {Err: form, At: 0}, "aa," + open + "x" + closing: {Err: form, At: 3},
		})
	}
	faults(t, map[string]api.Fault{"aa [x>": {Err: form, At: 5}, "aa [x >": {Err: form, At: 6}, "aa <x]": {Err: form, At: 5}, "aa <x ]": {Err: form, At: 6}})
}

// P12.1: terms of one kind in [ ], and of both in < >.
func TestKindsOfTerms(t *testing.T) {
	faults(t, map[string]api.Fault{"aa [x !y]": {Err: form, At: 6}, "aa [!x y]": {Err: form, At: 7}, "aa [x y !z]": {Err: form, At: 8}, "aa [!x !y z]": {Err: form, At: 10}, "aa [x !": {Err: form, At: 6}, "aa [x\n!!": {Err: form, At: 6}, "aa [!x  Y": {Err: form, At: 8}, "aa [!x -": {Err: form, At: 7}, "aa [!x ": {Err: short, At: 7}})
	reads(t, map[string][][]api.DebAlt{
		"aa <x !y>":                      all(one(api.DebAlt{Name: "aa", Profs: [][]api.DebTerm{terms("x", "!y")}})),
		"aa <!x y !x>":                   all(one(api.DebAlt{Name: "aa", Profs: [][]api.DebTerm{terms("!x", "y", "!x")}})),
		"aa [!x] <x> <y>":                all(one(api.DebAlt{Name: "aa", Archs: terms("!x"), Profs: [][]api.DebTerm{terms("x"), terms("y")}})),
		"aa [x]|bb [!x],cc [!y]":         all(one(api.DebAlt{Name: "aa", Archs: terms("x")}, api.DebAlt{Name: "bb", Archs: terms("!x")}), one(api.DebAlt{Name: "cc", Archs: terms("!y")})),
		"aa" + strings.Repeat("<x>", 84): all(one(api.DebAlt{Name: "aa", Profs: slices.Repeat([][]api.DebTerm{terms("x")}, 84)})),
		"aa<x><!y z>\n<x>,bb":            all(one(api.DebAlt{Name: "aa", Profs: [][]api.DebTerm{terms("x"), terms("!y", "z"), terms("x")}}), named("bb")),
	})
}

// P12.1: parts that are there twice, or in another order than the chapter's.
func TestOrderOfParts(t *testing.T) {
	faults(t, map[string]api.Fault{
		"aa (= 1) (= 1)": {Err: form, At: 9}, "aa(= 1)(= 1)": {Err: form, At: 7}, "aa [x] [y]": {Err: form, At: 7}, "aa[x][y]": {Err: form, At: 5}, "aa [x] (= 1)": {Err: form, At: 7}, "aa <x> (= 1)": {Err: form, At: 7}, "aa <x> [y]": {Err: form, At: 7}, "aa <x> <y> [z]": {Err: form, At: 11}, "aa (= 1) [x] (": {Err: form, At: 13}, "aa (= 1) <x> [": {Err: form, At: 13}, "aa [x] <y> (": {Err: form, At: 11}, "aa (= 1) bb": {Err: form, At: 9}, "aa [x] !": {Err: form, At: 7}, "aa <x> !": {Err: form, At: 7}, "aa <x> >": {Err: form, At: 7}, "aa (= 1) =": {Err: form, At: 9}, "aa !": {Err: form, At: 3}, "aa bb": {Err: form, At: 3}, "aa\nbb": {Err: form, At: 3},
	})
}

// P12.1: commas and bars at the beginning, one behind another, and at the end.
func TestCommasAndBars(t *testing.T) {
	for _, b := range []string{"", " ", "\t\r\n"} {
		for _, sep := range []string{",", "|"} {
			for _, head := range []string{"aa", "aa:x", "aa (= 1)", "aa [x]", "aa <x>", "aa|bb", "aa,bb"} {
				at := len(head + b + sep + b)
				faults(t, map[string]api.Fault{
					b + sep + b + head: {Err: form, At: len(b)}, head + b + sep + b: {Err: short, At: at}, head + b + sep + b + "," + b + "bb": {Err: form, At: at}, head + b + sep + b + "|" + b + "bb": {Err: form, At: at}, head + b + sep + b + "(= 1)": {Err: form, At: at}, head + b + sep + b + "b": {Err: short, At: at + 1}, head + b + sep + b + "b,": {Err: form, At: at + 1},
				})
			}
		}
	}
	faults(t, map[string]api.Fault{",": {Err: form, At: 0}, "|": {Err: form, At: 0}, " \n|": {Err: form, At: 2}, "aa;bb": {Err: form, At: 2}, "aa, ;": {Err: form, At: 4}})
}

// P12.1: the 32nd and the 33rd alternative.
func TestMostAlternatives(t *testing.T) {
	for _, seps := range []string{",", "|", ",|", "||,", "|,,,"} {
		var want [][]api.DebAlt
		s := ""
		for i := range 32 {
			if i > 0 {
				s += seps[i%len(seps) : i%len(seps)+1]
			}
			if i == 0 || strings.HasSuffix(s, ",") {
				want = append(want, nil)
			}
			s += "aa"
			want[len(want)-1] = append(want[len(want)-1], api.DebAlt{Name: "aa"})
		}
		reads(t, map[string][][]api.DebAlt{s: want, s + " ": want})
		for _, sep := range []string{",", "|", " ,\n", "\t| "} {
			at := len(s + sep)
			faults(t, map[string]api.Fault{
				s + sep + "aa": {Err: long, At: at}, s + sep + "a": {Err: long, At: at}, s + sep + "0!": {Err: long, At: at}, s + sep + "aa,,": {Err: long, At: at}, s + sep + "z,": {Err: long, At: at}, s + sep + strings.Repeat("a", 49): {Err: long, At: at},
				// No alternative begins there.
				s + sep: {Err: short, At: at}, s + sep + ",": {Err: form, At: at}, s + sep + "|aa": {Err: form, At: at}, s + sep + "-aa": {Err: form, At: at}, s + sep + "A": {Err: form, At: at}, s + sep + "(": {Err: form, At: at}, s + sep + "\xff": {Err: form, At: at},
			})
		}
		faults(t, map[string]api.Fault{s + "!": {Err: form, At: len(s)}, s + " aa": {Err: form, At: len(s) + 1}, s + "(= x)": {Err: form, At: len(s) + 3}, s[:len(s)-2] + "a": {Err: short, At: len(s) - 1}, s[:len(s)-2] + "A,aa": {Err: form, At: len(s) - 2}})
	}
}

// P12.1: of several faults the first one is told.
func TestFirstFault(t *testing.T) {
	most := strings.Repeat("a", 48)
	faults(t, map[string]api.Fault{
		"a,,": {Err: form, At: 1}, "aa (= x), A": {Err: form, At: 6}, "aa [x !y] (": {Err: form, At: 6}, "aa [] <>": {Err: form, At: 4}, "aa (> x": {Err: form, At: 5}, "aa (= 1:) [": {Err: short, At: 8}, "aa (= 1:), bb (= _)": {Err: short, At: 8}, "aa (= _), bb (= 1:)": {Err: form, At: 6},
		most + "a,A": {Err: long, At: 48}, "A," + most + "a": {Err: form, At: 0}, "aa:" + most + "b (= x)": {Err: long, At: 51}, "aa (= x)," + most + "a": {Err: form, At: 6}, "aa: " + most + "a": {Err: form, At: 3}, strings.Repeat("aa,", 32) + most + "a": {Err: long, At: 96}, strings.Repeat("aa,", 31) + most + "a,aa": {Err: long, At: 141}, strings.Repeat("aa,", 31) + "aa [],aa": {Err: form, At: 97}, "aa [" + most + "a !y": {Err: long, At: 52}, "aa [x !" + most + "a": {Err: form, At: 6},
	})
}
