package debrel_test

import (
	"math/rand"
	"regexp"
	"slices"
	"strings"
	"testing"

	"dovetail/api"
	"dovetail/checks"
	"dovetail/debrel"
)

// P12.2
func TestFormat(t *testing.T) {
	for s, want := range map[string]string{
		"":                               "",
		" \n":                            "",
		"aa":                             "aa",
		"aa|bb,cc":                       "aa | bb, cc",
		"\taa , bb\n|cc ":                "aa, bb | cc",
		"aa:any":                         "aa:any",
		"aa:any(>=1)":                    "aa:any (>= 1)",
		"aa( = 01:1-0 )":                 "aa (= 01:1-0)",
		"aa(<<1)[x\ny]":                  "aa (<< 1) [x y]",
		"aa[ !x  !y ]<p><!q\tr>":         "aa [!x !y] <p> <!q r>",
		"aa<p>":                          "aa <p>",
		"aa:b(>>1)[c]<d>|ee,ff(<=2)<!g>": "aa:b (>> 1) [c] <d> | ee, ff (<= 2) <!g>",
	} {
		l, f := debrel.Parse(s)
		if got := debrel.Format(l); f != (api.Fault{}) || got != want {
			t.Errorf("Format(Parse(%q)) = %q, not %q", s, got, want)
		}
	}
	for _, l := range [][][]api.DebAlt{nil, {}} {
		if got := debrel.Format(l); got != "" {
			t.Errorf("Format of nothing = %q", got)
		}
	}
	// Lists that are empty are the same as those that are not there.
	if got := debrel.Format(all(one(api.DebAlt{Name: "aa", Archs: []api.DebTerm{}, Profs: [][]api.DebTerm{}}))); got != "aa" {
		t.Errorf("Format of empty lists = %q", got)
	}
}

// P12.2: alternatives that no text is read as, alone and beside others.
func TestFormatOfNone(t *testing.T) {
	most := strings.Repeat("x", 49)
	for _, a := range []api.DebAlt{
		{}, {Name: "a"}, {Name: "A"}, {Name: "-a"}, {Name: "aA"}, {Name: "aa "}, {Name: " aa"}, {Name: "aa,bb"}, {Name: "aa | bb"}, {Name: "aa, bb"}, {Name: "aa:x"}, {Name: "aa (= 1)"}, {Name: "aa [x]"}, {Name: "aa <x>"}, {Name: "aa\n"}, {Name: "aa\xff"}, {Name: most}, {Arch: "x"}, {Op: "=", Ver: "1"},
		{Name: "aa", Arch: "X"}, {Name: "aa", Arch: " "}, {Name: "aa", Arch: "-"}, {Name: "aa", Arch: "x+"}, {Name: "aa", Arch: "x "}, {Name: "aa", Arch: " x"}, {Name: "aa", Arch: "x (= 1)"}, {Name: "aa", Arch: "x [y]"}, {Name: "aa", Arch: "x, bb"}, {Name: "aa", Arch: "!x"}, {Name: "aa", Arch: ":x"}, {Name: "aa", Arch: most},
		{Name: "aa", Op: "="}, {Name: "aa", Ver: "1"}, {Name: "aa", Op: "<", Ver: "1"}, {Name: "aa", Op: ">", Ver: "1"}, {Name: "aa", Op: "==", Ver: "1"}, {Name: "aa", Op: "!=", Ver: "1"}, {Name: "aa", Op: " ", Ver: "1"}, {Name: "aa", Op: "= ", Ver: "1"}, {Name: "aa", Op: " =", Ver: "1"}, {Name: "aa", Op: "= 1", Ver: ""}, {Name: "aa", Op: "= 1)", Ver: "("}, {Name: "aa", Op: "x", Ver: "1"},
		{Name: "aa", Op: "=", Ver: "x"}, {Name: "aa", Op: "=", Ver: " "}, {Name: "aa", Op: "=", Ver: "1 "}, {Name: "aa", Op: "=", Ver: " 1"}, {Name: "aa", Op: "=", Ver: "1:"}, {Name: "aa", Op: "=", Ver: "1-"}, {Name: "aa", Op: "=", Ver: "1)"}, {Name: "aa", Op: "=", Ver: "1) [x]"}, {Name: "aa", Op: "=", Ver: "1), bb (= 1"}, {Name: "aa", Op: "=", Ver: "1_"}, {Name: "aa", Op: "=", Ver: strings.Repeat("1", 65)},
		{Name: "aa", Archs: terms("")}, {Name: "aa", Archs: terms("!")}, {Name: "aa", Archs: terms("x", "!y")}, {Name: "aa", Archs: terms("!x", "y")}, {Name: "aa", Archs: terms("x", "")}, {Name: "aa", Archs: terms("", "x")}, {Name: "aa", Archs: terms("X")}, {Name: "aa", Archs: terms("x y")}, {Name: "aa", Archs: terms("!x !y")}, {Name: "aa", Archs: terms("!!x")}, {Name: "aa", Archs: []api.DebTerm{{Name: "!x"}}}, {Name: "aa", Archs: terms("x] <y>")}, {Name: "aa", Archs: terms("x]", "[y")}, {Name: "aa", Archs: terms(" x")}, {Name: "aa", Archs: terms("x.")}, {Name: "aa", Archs: terms(most)},
		{Name: "aa", Profs: [][]api.DebTerm{nil}}, {Name: "aa", Profs: [][]api.DebTerm{{}}}, {Name: "aa", Profs: [][]api.DebTerm{terms("x"), nil}}, {Name: "aa", Profs: [][]api.DebTerm{nil, terms("x")}}, {Name: "aa", Profs: [][]api.DebTerm{terms("")}}, {Name: "aa", Profs: [][]api.DebTerm{terms("!")}}, {Name: "aa", Profs: [][]api.DebTerm{terms("x y")}}, {Name: "aa", Profs: [][]api.DebTerm{terms("x> <y")}}, {Name: "aa", Profs: [][]api.DebTerm{{{Name: "!x"}}}}, {Name: "aa", Profs: [][]api.DebTerm{terms("X")}}, {Name: "aa", Profs: [][]api.DebTerm{terms("x", "", "y")}}, {Name: "aa", Profs: [][]api.DebTerm{terms("x>, bb <y")}}, {Name: "aa", Profs: [][]api.DebTerm{terms("x", most)}},
	} {
		fit := api.DebAlt{Name: "bb"}
		for _, l := range [][][]api.DebAlt{{{a}}, {{a, fit}}, {{fit, a}}, {{a}, {fit}}, {{fit}, {a}}, {{fit, a, fit}}} {
			if got := debrel.Format(l); got != "" {
				t.Errorf("Format(%+v) = %q", l, got)
			}
		}
	}
}

// P12.2: groups that are empty, and more alternatives and bytes than a relation has.
func TestFormatOfLists(t *testing.T) {
	aa := named("aa")
	for _, l := range [][][]api.DebAlt{{nil}, {{}}, {nil, nil}, {aa, nil}, {nil, aa}, {aa, {}, aa}, {aa, aa, nil}, {{{}}}} {
		if got := debrel.Format(l); got != "" {
			t.Errorf("Format(%+v) = %q", l, got)
		}
	}
	for most, want := range map[int]bool{31: true, 32: true, 33: false, 1000: false} {
		for between, l := range map[string][][]api.DebAlt{" | ": {slices.Repeat(aa, most)}, ", ": slices.Repeat([][]api.DebAlt{aa}, most)} {
			text := strings.Repeat("aa"+between, most-1) + "aa"
			if got := debrel.Format(l); want && got != text || !want && got != "" {
				t.Errorf("Format of %d = %q", most, got)
			}
		}
	}
	for count, want := range map[int]bool{125: true, 126: false, 1 << 20: false} {
		// 3 bytes, a blank, 2 brackets, and 2 bytes for each term but the last one.
		l := all(one(api.DebAlt{Name: "aa+", Archs: slices.Repeat(terms("x"), count)}))
		if got := debrel.Format(l); want && len(got) != 255 || !want && got != "" {
			t.Errorf("Format of %d terms = %q", count, got)
		}
		l = all(one(api.DebAlt{Name: "aa", Profs: slices.Repeat([][]api.DebTerm{terms("x")}, count)}))
		if got := debrel.Format(l); got != "" {
			t.Errorf("Format of %d profiles = %q", count, got)
		}
	}
	long256 := all(one(api.DebAlt{Name: "aaa+", Archs: slices.Repeat(terms("x"), 125)}))
	if got := debrel.Format(long256); len(got) != 256 {
		t.Errorf("Format = %q", got)
	}
	long257 := all(one(api.DebAlt{Name: "aaa++", Archs: slices.Repeat(terms("x"), 125)}))
	if got := debrel.Format(long257); got != "" {
		t.Errorf("Format = %q", got)
	}
	if got := debrel.Format(all(one(api.DebAlt{Name: strings.Repeat("a", 1<<20)}))); got != "" {
		t.Errorf("Format of a long name = %q", got)
	}
}

// anyRelation is a list of groups, chosen by a fixed source, of which most are relations.
func anyRelation(source *rand.Rand) [][]api.DebAlt {
	pick := func(l ...string) string { return l[source.Intn(len(l))] }
	anyTerms := func() []api.DebTerm {
		var l []api.DebTerm
		for range source.Intn(4) {
			l = append(l, api.DebTerm{Not: source.Intn(2) == 0, Name: pick("x", "amd64", "y-z", "0")})
		}
		return l
	}
	var l [][]api.DebAlt
	for range source.Intn(4) {
		var group []api.DebAlt
		for range 1 + source.Intn(3) {
			a := api.DebAlt{Name: pick("aa", "b+", "lib.c-6", "00"), Arch: pick("", "", "any", "0-")}
			if source.Intn(2) == 0 {
				a.Op, a.Ver = pick(everyOperator()...), pick("1", "1:2-3", "0~rc", "1.0-1-1")
			}
			if source.Intn(3) == 0 {
				a.Archs = anyTerms()
			}
			for range source.Intn(3) {
				if p := anyTerms(); len(p) > 0 || source.Intn(8) == 0 {
					a.Profs = append(a.Profs, p)
				}
			}
			group = append(group, a)
		}
		l = append(l, group)
	}
	return l
}

// written is P12.2's text by its words, whatever it is read as.
func written(l [][]api.DebAlt) string {
	text := ""
	for i, group := range l {
		if i > 0 {
			text += ", "
		}
		for j, a := range group {
			if j > 0 {
				text += " | "
			}
			text += a.Name
			if a.Arch != "" {
				text += ":" + a.Arch
			}
			if a.Op != "" {
				text += " (" + a.Op + " " + a.Ver + ")"
			}
			for k, terms := range append([][]api.DebTerm{a.Archs}, a.Profs...) {
				row := ""
				for _, term := range terms {
					row += " " + strings.Repeat("!", map[bool]int{true: 1}[term.Not]) + term.Name
				}
				if k > 0 {
					text += " <" + strings.TrimPrefix(row, " ") + ">"
				} else if len(terms) > 0 {
					text += " [" + row[1:] + "]"
				}
			}
		}
	}
	return text
}

// P12.2 and P12.8: a text is told just where it is read as the list, and is as the chapter says.
func TestThereAndBack(t *testing.T) {
	source := rand.New(rand.NewSource(12))
	o, back, none := newOracle(), 0, 0
	for range 20000 {
		l := anyRelation(source)
		text := written(l)
		want, ok := o.groups(text)
		fits := ok && len(text) <= 256 && same(want, l)
		got := debrel.Format(l)
		if fits && got != text || !fits && got != "" {
			t.Fatalf("Format(%+v) = %q, not %q", l, got, text)
		}
		if !fits {
			none++
			continue
		}
		back++
		if again, f := debrel.Parse(got); f != (api.Fault{}) || !same(again, l) {
			t.Fatalf("%q is read as %+v, %v", got, again, f)
		}
	}
	if back < 5000 || none < 1000 {
		t.Errorf("only %d relations, %d that are none", back, none)
	}
}

// P12.3
func TestName(t *testing.T) {
	wanted := regexp.MustCompile(`^[a-z0-9][a-z0-9+.-]{1,47}$`)
	every := slices.Concat(checks.Texts("a0Z+-. _", 4), checks.Rows([]string{strings.Repeat("a", 23), "b", "-", "+.", "9"}, 5), []string{
		strings.Repeat("a", 47), strings.Repeat("a", 48), strings.Repeat("a", 49), "a" + strings.Repeat(".", 47), "a" + strings.Repeat(".", 48), strings.Repeat("a", 1<<16), "aa\n", "aa,bb", "aa:x", "\xc3\xa9a", "a\xc3\xa9",
	})
	for c := range 256 {
		b := string([]byte{byte(c)})
		every = append(every, b, b+b, b+"a", "a"+b, "a"+b+"b", "ab"+b)
	}
	names := 0
	for _, s := range every {
		want := wanted.MatchString(s)
		if got := debrel.Name(s); got != want {
			t.Errorf("Name(%q) = %v", s, got)
		}
		if l, f := debrel.Parse(s); want && (f.Err != api.OK || !same(l, all(named(s)))) {
			t.Errorf("Parse(%q) = %+v, %v", s, l, f)
		}
		if want {
			names++
		}
	}
	if names < 1000 {
		t.Errorf("only %d names", names)
	}
}
