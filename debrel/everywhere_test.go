package debrel_test

import (
	"regexp"
	"slices"
	"strings"
	"testing"

	"dovetail/api"
	"dovetail/checks"
	"dovetail/deb"
	"dovetail/debrel"
)

const (
	someBlanks = `[ \t\n\r]*`
	nameForm   = `[a-z0-9][a-z0-9+.-]+`
	archForm   = `[a-z0-9][a-z0-9-]*`
)

// oracle is the chapter's section 'The text' as forms. Versions are left to deb, the limits of lengths and counts to other tests.
type oracle struct{ relation, alternative, profile, inVersion *regexp.Regexp }

func newOracle() oracle {
	listed := func(term string) string { return term + `(?:[ \t\n\r]+` + term + `)*` }
	bracket := func(open, in, closing string) string {
		return someBlanks + open + someBlanks + in + someBlanks + closing
	}
	archs := `((?:` + listed(archForm) + `)|(?:` + listed("!"+archForm) + `))`
	profile := bracket("<", `(`+listed("!?"+archForm)+`)`, ">")
	version := bracket(`\(`, `(<<|<=|=|>=|>>)`+someBlanks+`([0-9][^ \t\n\r)]*)`, `\)`)
	alternative := `(` + nameForm + `)(?::(` + archForm + `))?(?:` + version + `)?(?:` + bracket(`\[`, archs, `\]`) + `)?((?:` + profile + `)*)`
	return oracle{
		relation:    regexp.MustCompile(`^` + someBlanks + `(?:` + alternative + `(?:` + someBlanks + `[,|]` + someBlanks + alternative + `)*)?` + someBlanks + `$`),
		alternative: regexp.MustCompile(`^` + someBlanks + alternative + someBlanks + `$`),
		profile:     regexp.MustCompile(profile),
		inVersion:   regexp.MustCompile(`\(` + someBlanks + `(?:<<|<=|=|>=|>>)` + someBlanks + `[^ \t\n\r)]+$`),
	}
}

// groups is what a text is read as, if it is a relation.
func (o oracle) groups(s string) ([][]api.DebAlt, bool) {
	if !o.relation.MatchString(s) {
		return nil, false
	}
	var l [][]api.DebAlt
	for group := range strings.SplitSeq(s, ",") {
		var alts []api.DebAlt
		for alt := range strings.SplitSeq(group, "|") {
			m := o.alternative.FindStringSubmatch(alt)
			if m == nil {
				return nil, strings.Trim(s, " \t\n\r") == ""
			}
			a := api.DebAlt{Name: m[1], Arch: m[2], Op: m[3], Ver: m[4], Archs: terms(strings.Fields(m[5])...)}
			for _, p := range o.profile.FindAllStringSubmatch(m[6], -1) {
				a.Profs = append(a.Profs, terms(strings.Fields(p[1])...))
			}
			if _, f := deb.Parse(a.Ver); a.Op != "" && f.Err != api.OK {
				return nil, false
			}
			alts = append(alts, a)
		}
		l = append(l, alts)
	}
	return l, true
}

// goesOn tells whether a relation begins with a text.
func (o oracle) goesOn(s string) bool {
	return slices.ContainsFunc([]string{"", "a", "aa", "=1)", "<1)", ">1)", "1)", ")", "0)", "-0)", "a]", "]", "a>", ">"}, func(end string) bool {
		_, ok := o.groups(s + end)
		return ok
	})
}

// right tells whether what Parse tells of a text is P12.1 by its words.
func (o oracle) right(s string, l [][]api.DebAlt, f api.Fault) bool {
	if want, ok := o.groups(s); ok || f.Err == api.OK {
		return ok && f == (api.Fault{}) && same(l, want)
	}
	if len(l) > 0 || f.At < 0 || f.At > len(s) || !o.goesOn(s[:f.At]) {
		return false
	}
	if f.At == len(s) {
		return f.Err == short
	}
	if o.goesOn(s[:f.At+1]) {
		return false
	}
	// A version that ends too early is told as such, whatever ends it.
	if strings.IndexByte(" \t\n\r)", s[f.At]) >= 0 && o.inVersion.MatchString(s[:f.At]) {
		if _, ok := o.groups(s[:f.At] + ")"); !ok {
			return f.Err == short
		}
	}
	return f.Err == form
}

// samples is relations with all parts.
func samples() []string {
	return []string{
		"aa:any (>= 1:2-3) [!x !y] <!p q> <r> , bb",
		"a+|b.(<<1)[x  y]\n<z>|c-:d\t<p>",
		"aa( =1:0:1-:-2 )[x]",
		"0-,11 ( >> 1.0~rc-1\n) | zz [ !a ] ",
	}
}

// everyRelation is all short rows of what relations are made of, behind some beginnings, and samples with each byte another one.
func everyRelation() []string {
	l := slices.Concat(
		checks.Rows([]string{"a", "a+", " ", ",", "|", ":", "-"}, 5),
		checks.Rows([]string{"aa", ":x", " ", ",", "|", "(= 1)", "[x]", "<x>", "<!y x>"}, 4),
	)
	for _, row := range checks.Rows([]string{"<", ">", "=", "1", "a", ":", "-", " ", ")", ","}, 4) {
		l = append(l, "aa("+row, "aa (= 1"+row)
	}
	for _, row := range checks.Rows([]string{"x", "!", " ", "-", "]", ">", "\t", ","}, 4) {
		l = append(l, "aa["+row, "aa <"+row, "aa[x "+row, "aa [!x "+row, "aa <x> <!x "+row)
	}
	for _, s := range samples() {
		l = append(l, checks.Edited(s, "a0A-+.: \n,|()<>=[]!~_\x00\xff")...)
	}
	return l
}

// P12.1 and P12.8, by their words.
func TestParseEverywhere(t *testing.T) {
	o, kinds := newOracle(), map[api.Errno]int{}
	for _, s := range everyRelation() {
		l, f := debrel.Parse(s)
		if !o.right(s, l, f) {
			t.Errorf("Parse(%q) = %+v, %v", s, l, f)
		}
		kinds[f.Err]++
		if f.Err != api.OK {
			continue
		}
		text := debrel.Format(l)
		if again, g := debrel.Parse(text); g != f || !same(again, l) || text == "" && len(l) > 0 {
			t.Errorf("%q is written %q, which is read as %+v, %v", s, text, again, g)
		}
	}
	for _, err := range []api.Errno{api.OK, form, short} {
		if kinds[err] < 2000 {
			t.Errorf("only %d texts of the kind %d", kinds[err], err)
		}
	}
}

// P12.1: a text that ends ahead of a relation's end is too short, or a relation that ends there.
func TestEndsEverywhere(t *testing.T) {
	o := newOracle()
	for _, s := range samples() {
		if _, f := debrel.Parse(s); f.Err != api.OK {
			t.Fatalf("%q: %v", s, f)
		}
		for end := range len(s) {
			l, f := debrel.Parse(s[:end])
			want, ok := o.groups(s[:end])
			if ok && (f != (api.Fault{}) || !same(l, want)) || !ok && f != (api.Fault{Err: short, At: end}) {
				t.Errorf("Parse(%q) = %+v, %v", s[:end], l, f)
			}
		}
	}
}

// P12.9: between any two pieces blanks of all kinds may stand, or none; but not where pieces must join, and not none between two terms.
func TestBlanks(t *testing.T) {
	const marked = "~aa:any~(~>=~1:2-3~)~[~!x_!y~]~<~!p_q~>~<~r~>~,~bb~|~c+~,~dd~(~=~1~)~"
	plain := strings.NewReplacer("~", "", "_", " ").Replace(marked)
	want, f := debrel.Parse(plain)
	if f != (api.Fault{}) || len(want) != 3 {
		t.Fatalf("Parse(%q) = %+v, %v", plain, want, f)
	}
	for _, b := range []string{" ", "\t", "\n", "\r", " \t\n\r"} {
		reads(t, map[string][][]api.DebAlt{strings.NewReplacer("~", b, "_", b).Replace(marked): want})
		at := 0
		for i := range len(marked) {
			// Just one of the places has blanks.
			if strings.IndexByte("~_", marked[i]) >= 0 {
				reads(t, map[string][][]api.DebAlt{plain[:at] + b + plain[at:]: want})
			} else if i > 0 && strings.IndexByte("~_", marked[i-1]) < 0 {
				if l, f := debrel.Parse(plain[:at] + b + plain[at:]); f.Err == api.OK {
					t.Errorf("Parse(%q) = %+v", plain[:at]+b+plain[at:], l)
				}
			}
			if marked[i] != '~' {
				at++
			}
		}
	}
	faults(t, map[string]api.Fault{
		"a a": {Err: form, At: 1}, "aa a": {Err: form, At: 3}, "aa -": {Err: form, At: 3}, "aa (> = 1)": {Err: form, At: 5}, "aa (< < 1)": {Err: form, At: 5}, "aa (= 1 .0)": {Err: form, At: 8}, "aa (= 1: 0)": {Err: short, At: 8}, "aa (= 1 :0)": {Err: form, At: 8}, "aa:x y": {Err: form, At: 5}, "aa [! x]": {Err: form, At: 5}, "aa <! x>": {Err: form, At: 5},
		"aa\v": {Err: form, At: 2}, "aa\f,bb": {Err: form, At: 2}, "aa\u00a0": {Err: form, At: 2}, "aa [x\vy]": {Err: form, At: 5},
	})
}
