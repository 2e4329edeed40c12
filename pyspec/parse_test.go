package pyspec_test

import (
	"regexp"
	"slices"
	"strings"
	"testing"

	"dovetail/api"
	"dovetail/checks"
	"dovetail/pep"
	"dovetail/pyspec"
)

const (
	form    = api.ErrForm
	short   = api.ErrShort
	long    = api.ErrLong
	version = api.ErrVersion
)

// signs is all operators, the longer ones first.
func signs() []string { return []string{"===", "~=", "==", "!=", "<=", ">=", "<", ">"} }

func one(op, ver string) api.PyClause { return api.PyClause{Op: op, Ver: ver} }

func starred(op, ver string) api.PyClause { return api.PyClause{Op: op, Ver: ver, Star: true} }

// says checks what a text is read as.
func says(t *testing.T, s string, want ...api.PyClause) {
	t.Helper()
	if l, f := pyspec.Parse(s); f != (api.Fault{}) || !slices.Equal(l, want) || !pyspec.Valid(s) {
		t.Errorf("Parse(%q) = %+v, %v, not %+v", s, l, f, want)
	}
}

// faults checks where texts go wrong.
func faults(t *testing.T, wanted map[string]api.Fault) {
	t.Helper()
	for s, want := range wanted {
		if l, f := pyspec.Parse(s); f != want || len(l) > 0 || pyspec.Valid(s) {
			t.Errorf("Parse(%q) = %+v, %v, not %v", s, l, f, want)
		}
	}
}

// P10.1 and P10.7: no clauses.
func TestNoClauses(t *testing.T) {
	for _, s := range []string{"", " ", "\t", " \t\t  ", strings.Repeat(" ", 256)} {
		says(t, s)
	}
}

// P10.1: each operator, alone and among others, with blanks where they may stand.
func TestClauses(t *testing.T) {
	for _, op := range signs() {
		for _, v := range []string{"1.0", "1!2.3", "v1.0", "1.0A1.post-2_dev", "01.02.0", "1.2-3"} {
			says(t, op+v, one(op, v))
			for _, b := range []string{" ", "\t", " \t "} {
				says(t, b+op+v, one(op, v))
				says(t, op+b+v, one(op, v))
				says(t, op+v+b, one(op, v))
				says(t, b+op+b+v+b, one(op, v))
				for _, other := range signs() {
					says(t, op+v+","+other+"2.0", one(op, v), one(other, "2.0"))
					says(t, b+op+b+v+b+","+b+other+b+"2.0"+b, one(op, v), one(other, "2.0"))
					says(t, op+v+b+","+other+"2.0", one(op, v), one(other, "2.0"))
					says(t, op+v+","+b+other+"2.0", one(op, v), one(other, "2.0"))
				}
			}
		}
	}
	says(t, ">=1.0, !=1.5.*, <2", one(">=", "1.0"), starred("!=", "1.5"), one("<", "2"))
	says(t, "<1,<1,<1", one("<", "1"), one("<", "1"), one("<", "1"))
}

// P10.1: local parts stand behind == and != alone, and behind === as text.
func TestLocalParts(t *testing.T) {
	for _, op := range signs() {
		for _, v := range []string{"1.0+a", "1.0+1.b_2", "1!2.0a1.post2.dev3+X-01", "v1.0+0"} {
			if op == "==" || op == "!=" || op == "===" {
				says(t, op+v, one(op, v))
				says(t, "<2, "+op+" "+v+" ,>1", one("<", "2"), one(op, v), one(">", "1"))
				continue
			}
			faults(t, map[string]api.Fault{
				op + v:                 {Err: version, At: len(op)},
				op + " \t" + v + " ,!": {Err: version, At: len(op) + 2},
				"<2, " + op + v + " x": {Err: version, At: len(op) + 4},
			})
		}
	}
}

// P10.1: how many numbers ~= asks for.
func TestNumbersOfCompatible(t *testing.T) {
	for _, v := range []string{"1.0", "0.0", "1.2.3", "5!1.0", "v1.0", "1.0a1", "1.0.post2", "1.0-1", "1.0.dev3", "1.0rc", "1.0.0.0.0"} {
		says(t, "~="+v, one("~=", v))
	}
	for _, v := range []string{"1", "0", "10", "5!1", "v1", "1a1", "1.a1", "1.post2", "1-1", "1.dev3", "1.rc.2", "1rc.2", "1.post.2.dev.3", "1+a", "1+1.2", "1.0+a", "1.0+1.2"} {
		faults(t, map[string]api.Fault{"~=" + v: {Err: version, At: 2}, "~= " + v + ",": {Err: version, At: 3}})
		says(t, "=="+v, one("==", v))
	}
}

// P10.1: .* behind each operator, and behind each kind of version.
func TestStars(t *testing.T) {
	for _, op := range []string{"==", "!="} {
		for _, v := range []string{"1", "0", "1.0", "1.2.3.0", "5!1", "05!1.02", "v1", "V1!2.3", strings.Repeat("1", 64)} {
			says(t, op+v+".*", starred(op, v))
			says(t, "\t"+op+" "+v+".* ,<2", starred(op, v), one("<", "2"))
		}
		for _, v := range []string{"1a1", "1.0rc", "1.0.post1", "1-1", "1.0.dev0", "1.0dev", "1+a", "1.0+1", "1!2a1.post2.dev3+x", "v1b"} {
			faults(t, map[string]api.Fault{op + v + ".*": {Err: version, At: 2}, op + "\t" + v + ".*,": {Err: version, At: 3}})
		}
		faults(t, map[string]api.Fault{
			op + ".*": {Err: short, At: 2}, op + " .*": {Err: short, At: 3}, op + "..*": {Err: form, At: 2}, op + "1..*": {Err: form, At: 3}, op + "1.*.*": {Err: form, At: 3}, op + "x.*": {Err: form, At: 2}, op + "1!.*": {Err: short, At: 4}, op + "v.*": {Err: short, At: 3}, op + "1.0+.*": {Err: short, At: 6}, op + "1.0+a..*": {Err: form, At: 7},
			op + "*": {Err: form, At: 2}, op + "1*": {Err: form, At: 3}, op + "1.0*": {Err: form, At: 5}, op + "1.*1": {Err: form, At: 3}, op + "1.**": {Err: form, At: 3}, op + "1.*.1": {Err: form, At: 3}, op + "1.* *": {Err: form, At: 6}, op + "1 .*": {Err: form, At: 4}, op + "1. *": {Err: form, At: 3}, op + "1.": {Err: form, At: 3},
			op + strings.Repeat("1", 65) + ".*": {Err: long, At: 66}, op + "." + strings.Repeat("1", 65) + ".*": {Err: long, At: 66},
		})
	}
	for _, op := range []string{"~=", "<=", ">=", "<", ">"} {
		at := len(op)
		// The version ends ahead of the dot, behind which no number stands.
		faults(t, map[string]api.Fault{op + "1.*": {Err: form, At: at + 1}, op + "1.2.*": {Err: form, At: at + 3}, op + " 1!2.*": {Err: form, At: at + 4}, op + ".*": {Err: form, At: at}, op + "1.0+a.*": {Err: form, At: at + 5}, op + strings.Repeat("1", 63) + ".*": {Err: long, At: at + 64}})
	}
	for _, v := range []string{"1.*", ".*", "*", "1.0a1.*", "x.*"} {
		says(t, "==="+v, one("===", v))
	}
}

// P10.1: what === takes.
func TestAnyWord(t *testing.T) {
	for _, w := range []string{"1", "x", "!", "~", "!~", "=", "==", "=1", "<2", "~=", "1.*", "foo-bar", "(1)", "\"", "#", "[a;b]", "1+", strings.Repeat("z", 253)} {
		says(t, "==="+w, one("===", w))
	}
	says(t, "=== \tA~!", one("===", "A~!"))
	says(t, "===!,===~ ,\t=== =", one("===", "!"), one("===", "~"), one("===", "="))
	for _, b := range []string{"\n", "\r", "\x00", "\x1f", "\x7f", "\x80", "\xff"} {
		faults(t, map[string]api.Fault{
			"===" + b: {Err: form, At: 3}, "=== " + b: {Err: form, At: 4}, "===ab" + b: {Err: form, At: 5}, "===a" + b + "b": {Err: form, At: 4}, "===a" + b + b + " x": {Err: form, At: 4}, "<1,=== \t~" + b + ",!": {Err: form, At: 9},
		})
	}
	faults(t, map[string]api.Fault{"===a b": {Err: form, At: 5}, "===a\tb": {Err: form, At: 5}, "===\xc3\xa9": {Err: form, At: 3}, "===": {Err: short, At: 3}, "=== ": {Err: short, At: 4}, "===,": {Err: form, At: 3}, "=== ,a": {Err: form, At: 4}})
}

// P10.1: bytes with which no operator goes on.
func TestOperators(t *testing.T) {
	faults(t, map[string]api.Fault{
		"1": {Err: form, At: 0}, "1.0": {Err: form, At: 0}, "x": {Err: form, At: 0}, "*": {Err: form, At: 0}, "^1": {Err: form, At: 0}, ";": {Err: form, At: 0}, "(": {Err: form, At: 0}, "\n": {Err: form, At: 0}, "\xff": {Err: form, At: 0}, "\x00": {Err: form, At: 0}, " 1": {Err: form, At: 1}, "\t\n": {Err: form, At: 1}, " \xff": {Err: form, At: 1},
		"=1": {Err: form, At: 1}, "~1": {Err: form, At: 1}, "!1": {Err: form, At: 1}, "= =1": {Err: form, At: 1}, "~ =1": {Err: form, At: 1}, "! =1": {Err: form, At: 1}, "=<1": {Err: form, At: 1}, "=>1": {Err: form, At: 1}, "=~1": {Err: form, At: 1}, "=!1": {Err: form, At: 1}, "~~=1": {Err: form, At: 1}, "!!=1": {Err: form, At: 1}, "~!": {Err: form, At: 1}, "=,": {Err: form, At: 1}, "~,": {Err: form, At: 1}, "!,": {Err: form, At: 1}, " ~\xff": {Err: form, At: 2}, "!\x00": {Err: form, At: 1}, "=\t": {Err: form, At: 1}, "~\n": {Err: form, At: 1},
		"<1,1": {Err: form, At: 3}, "<1, =1": {Err: form, At: 5}, "<1,\t~>1": {Err: form, At: 5}, "<1,!>1": {Err: form, At: 4}, "<1, !": {Err: short, At: 5},
		// An operator is as long as it can be, and what is left of the signs is no version.
		"<==1": {Err: form, At: 2}, ">==1": {Err: form, At: 2}, "!==1": {Err: form, At: 2}, "~==1": {Err: form, At: 2}, "<>1": {Err: form, At: 1}, "><1": {Err: form, At: 1}, "<<1": {Err: form, At: 1}, ">>1": {Err: form, At: 1}, "==<1": {Err: form, At: 2}, "== =1": {Err: form, At: 3}, "== ==1": {Err: form, At: 3}, "< =1": {Err: form, At: 2}, "> =1": {Err: form, At: 2}, "<~1": {Err: form, At: 1}, ">!1": {Err: form, At: 1},
	})
	says(t, "====1", one("===", "=1"))
	says(t, "=====", one("===", "=="))
}

// P10.1: texts that end where they may not.
func TestShort(t *testing.T) {
	for _, s := range []string{
		"~", "!", "=", "~=", "==", "!=", "<=", ">=", "<", ">", "===", " ~", "\t!", " =", "~= ", "==\t", "!= \t", "<= ", ">= ", "< ", "> ", "=== ", " <", "<1,", "<1, ", "<1 ,", "<1\t,\t", "<1,<", "<1,<2,", "<1,~", "<1,=", "<1, !", "<1,===", "<1,>= ",
		// The version's own, told at its end.
		"<v", "<1!", "< v1!", "==1+", "==1.0a1+", "<1,>=v",
	} {
		faults(t, map[string]api.Fault{s: {Err: short, At: len(s)}})
	}
}

// P10.1: commas, and what stands behind a word.
func TestCommas(t *testing.T) {
	faults(t, map[string]api.Fault{
		",": {Err: form, At: 0}, " ,": {Err: form, At: 1}, ",<1": {Err: form, At: 0}, ",,": {Err: form, At: 0}, "\t ,<1": {Err: form, At: 2}, "<1,,": {Err: form, At: 3}, "<1,,<2": {Err: form, At: 3}, "<1, ,<2": {Err: form, At: 4}, ">=1,,<2": {Err: form, At: 4},
		"<,1": {Err: form, At: 1}, "< ,1": {Err: form, At: 2}, ">=,": {Err: form, At: 2}, "~=\t,1.0": {Err: form, At: 3}, "==,": {Err: form, At: 2}, "!=,": {Err: form, At: 2}, "<=,": {Err: form, At: 2}, ">,": {Err: form, At: 1}, "<1,>=,": {Err: form, At: 5},
		"<1 2": {Err: form, At: 3}, "<1 <2": {Err: form, At: 3}, "<1\t;": {Err: form, At: 3}, "<1  \n": {Err: form, At: 4}, "<1 \xff": {Err: form, At: 3}, "<1,>2 =": {Err: form, At: 6}, "==1.* x": {Err: form, At: 6}, "===x y": {Err: form, At: 5}, "~=1.0 .": {Err: form, At: 6}, "<1 =": {Err: form, At: 3},
		"<1<2": {Err: form, At: 2}, "<1;": {Err: form, At: 2}, "<1\n": {Err: form, At: 2}, ">=1=2": {Err: form, At: 3},
	})
}

// P10.1: a version's own faults, from the word's beginning on, ahead of all that stands behind.
func TestFaultsOfVersions(t *testing.T) {
	digits := strings.Repeat("9", 64)
	for _, op := range []string{"~=", "==", "!=", "<=", ">=", "<", ">"} {
		for _, blanks := range []string{"", " ", " \t "} {
			for _, ahead := range []string{"", "<1,", " ===x\t, "} {
				for _, behind := range []string{"", ",", " x", " ,<1", ",!", "\t\xff"} {
					s := ahead + op + blanks
					at := len(s)
					faults(t, map[string]api.Fault{
						s + "x" + behind: {Err: form, At: at}, s + "1.0x" + behind: {Err: form, At: at + 3}, s + "1.0." + behind: {Err: form, At: at + 3}, s + "1.0+a." + behind: {Err: form, At: at + 5}, s + "1!!2" + behind: {Err: form, At: at + 2}, s + "v" + behind: {Err: short, At: at + 1}, s + "1!" + behind: {Err: short, At: at + 2}, s + "1.0+" + behind: {Err: short, At: at + 4}, s + "1.0+!" + behind: {Err: form, At: at + 4}, s + digits + "9" + behind: {Err: long, At: at + 64}, s + "x" + digits + behind: {Err: long, At: at + 64}, s + "\xff" + behind: {Err: form, At: at}, s + "1\n" + behind: {Err: form, At: at + 1},
					})
				}
			}
		}
	}
	says(t, ">= "+digits, one(">=", digits))
}

// P10.1: the bytes of a text.
func TestLength(t *testing.T) {
	blanks := strings.Repeat(" ", api.MaxSpec)
	says(t, blanks[:254]+"<1", one("<", "1"))
	says(t, "<1"+blanks[:254], one("<", "1"))
	says(t, "<"+blanks[:254]+"1", one("<", "1"))
	says(t, "==="+strings.Repeat("x", 253), one("===", strings.Repeat("x", 253)))
	faults(t, map[string]api.Fault{
		blanks + " ":                     {Err: long, At: 256},
		blanks + "<1":                    {Err: long, At: 256},
		"<1" + blanks[:255]:              {Err: long, At: 256},
		"!" + blanks:                     {Err: long, At: 256},
		"," + blanks:                     {Err: long, At: 256},
		"~=1" + blanks:                   {Err: long, At: 256},
		"===" + strings.Repeat("x", 254): {Err: long, At: 256},
		"<" + blanks[:255]:               {Err: short, At: 256},
		"<1" + blanks[:253] + ",":        {Err: short, At: 256},
		"<1" + blanks[:253] + "x":        {Err: form, At: 255},
		blanks[:255] + "x":               {Err: form, At: 255},
		strings.Repeat("<1,", 100):       {Err: long, At: 256},
		strings.Repeat("=", 1<<20):       {Err: long, At: 256},
	})
}

// P10.1: how many clauses.
func TestCount(t *testing.T) {
	most := strings.Repeat("<1,", 31) + ">2"
	want := append(slices.Repeat([]api.PyClause{one("<", "1")}, 31), one(">", "2"))
	says(t, most, want...)
	says(t, strings.ReplaceAll(most, ",", " ,\t")+" ", want...)
	end := len(most)
	faults(t, map[string]api.Fault{
		most + ",<1":         {Err: long, At: end + 1},
		most + " ,\t <1":     {Err: long, At: end + 4},
		most + ",<1,<1,<1":   {Err: long, At: end + 1},
		most + ",x":          {Err: long, At: end + 1},
		most + ",,":          {Err: long, At: end + 1},
		most + ", ,":         {Err: long, At: end + 2},
		most + ",=":          {Err: long, At: end + 1},
		most + ",<":          {Err: long, At: end + 1},
		most + ",~=1":        {Err: long, At: end + 1},
		most + ",\xff":       {Err: long, At: end + 1},
		most + ",\n":         {Err: long, At: end + 1},
		most + ",":           {Err: short, At: end + 1},
		most + ", ":          {Err: short, At: end + 2},
		most + " ,\t\t":      {Err: short, At: end + 4},
		most + " x":          {Err: form, At: end + 1},
		most + "x,<1":        {Err: form, At: end},
		most + "+a,<1":       {Err: version, At: end - 1},
		most[3:] + ",=1,<1":  {Err: form, At: end - 1},
		most[3:] + ",~=1,<1": {Err: version, At: end},
	})
}

const (
	blankForm = `[ \t]`
	byteForm  = `[^ \t,]`
	// A word right behind an operator that = makes longer begins with another byte.
	laterForm  = `(` + blankForm + `+` + byteForm + `|[^ \t,=])` + byteForm + `*`
	clauseForm = blankForm + `*((===|[~!<>]=)` + blankForm + `*` + byteForm + `+|(==|[<>])` + laterForm + `)` + blankForm + `*`
)

var (
	wholeText  = regexp.MustCompile(`^(` + blankForm + `*|` + clauseForm + `(,` + clauseForm + `)*)$`)
	twoNumbers = regexp.MustCompile(`^[vV]?([0-9]+!)?[0-9]+\.[0-9]`)
	baseAlone  = regexp.MustCompile(`^[vV]?([0-9]+!)?[0-9]+(\.[0-9]+)*$`)
)

// told is a fault and the byte up to which a text is read when it is told.
type told struct {
	api.Fault
	by int
}

// piece is what stands between two commas: the places of its operator and of its word, and its word.
type piece struct {
	start, at int
	op, word  string
}

// pieces is what stands between the commas of a text whose form is right, as far as it goes.
func pieces(s string) []piece {
	var l []piece
	place := 0
	for _, text := range strings.Split(s, ",") {
		rest := strings.TrimLeft(text, " \t")
		p := piece{start: place + len(text) - len(rest)}
		for _, sign := range signs() {
			if p.op == "" && strings.HasPrefix(rest, sign) {
				p.op = sign
			}
		}
		p.word = strings.TrimLeft(rest[len(p.op):], " \t")
		p.at = place + len(text) - len(p.word)
		p.word = strings.TrimRight(p.word, " \t")
		l = append(l, p)
		place += len(text) + 1
	}
	return l
}

// wantedWord is the promise's words on a word.
func wantedWord(op, word string) (api.PyClause, api.Fault) {
	if op == "===" {
		if i := strings.IndexFunc(word, func(r rune) bool { return r < 33 || r > 126 }); i >= 0 {
			return api.PyClause{}, api.Fault{Err: form, At: i}
		}
		return one(op, word), api.Fault{}
	}
	equal := op == "==" || op == "!="
	c := one(op, word)
	if equal && strings.HasSuffix(word, ".*") {
		c = starred(op, word[:len(word)-2])
	}
	if _, f := pep.Parse(c.Ver); f.Err != api.OK {
		return api.PyClause{}, f
	}
	if c.Star && !baseAlone.MatchString(c.Ver) || !equal && strings.Contains(word, "+") || op == "~=" && !twoNumbers.MatchString(word) {
		return api.PyClause{}, api.Fault{Err: version}
	}
	return c, api.Fault{}
}

// wanted is P10.1 by its words: the clauses, or of all faults that which is told with the fewest bytes read.
func wanted(s string) ([]api.PyClause, api.Fault) {
	if len(s) > 256 {
		return nil, api.Fault{Err: long, At: 256}
	}
	if strings.Trim(s, " \t") == "" {
		return nil, api.Fault{}
	}
	end := checks.Begins(s, []string{"", "1", "=1", "<1"}, wholeText.MatchString)
	first := told{by: len(s) + 1}
	tell := func(err api.Errno, at, by int) {
		if by < first.by {
			first = told{api.Fault{Err: err, At: at}, by}
		}
	}
	var l []api.PyClause
	for i, p := range pieces(s[:end]) {
		if i == 32 && p.start < len(s) {
			tell(long, p.start, p.start)
		}
		if p.op == "" || p.word == "" {
			continue
		}
		c, f := wantedWord(p.op, p.word)
		if f.Err != api.OK {
			tell(f.Err, p.at+f.At, p.at)
		}
		l = append(l, c)
	}
	if end < len(s) {
		tell(form, end, end)
	} else if !wholeText.MatchString(s) {
		tell(short, end, end)
	}
	if first.Err != api.OK {
		l = nil
	}
	return l, first.Fault
}

// everyText is all short texts, and all short rows of what requirements are made of.
func everyText() []string {
	most := strings.Repeat("<1,", 31)
	var l []string
	for _, row := range checks.Rows([]string{"<1", ",", " ", "=", "x", "\t"}, 4) {
		l = append(l, most+row, most[3:]+row)
	}
	return slices.Concat(
		l,
		checks.Texts("=!~<1, ", 6),
		checks.Texts("=>1.*", 6),
		checks.Texts("=~1.+a", 6),
		checks.Rows([]string{"==", "===", "<", "1.0", "+a", ".*", " ", ","}, 5),
		checks.Rows([]string{"~=", "!=", "1", ".2", "!", "a1", ".*", "\t", ","}, 5),
		checks.Rows([]string{"==1", ">=1.0", "<2,", ".*", ".post1", ".dev2", "+l", ", "}, 5),
	)
}

// everyByte is each byte at each kind of place.
func everyByte() []string {
	most := strings.Repeat("<1,", 32)
	var l []string
	for c := range 256 {
		b := string([]byte{byte(c)})
		for _, place := range [][2]string{
			{"", ""}, {"", "<1"}, {" ", "<1"}, {"", "=1"}, {"~", "1.0"}, {"!", "1"}, {"=", "1"}, {"==", "1"}, {"<", "1"}, {">", "1"}, {"~=", "1.0"}, {"!=", "1"}, {"<= ", "1"}, {">=", ""}, {"===", ""}, {"===", "a"}, {"===a", ""}, {"===a", "b"}, {"=== a ", ""}, {"<1", ""}, {"<1", "2"}, {"<1 ", ""}, {"<1 ", ",<2"}, {"<1,", ""}, {"<1,", "<2"}, {"<1, ", "=2"}, {"==1", ".*"}, {"==1.", ""}, {"==1.", "*"}, {"==1.*", ""}, {"!=1.*", " "}, {"==1.* ", ""}, {"~=1", "2"}, {"~=1.", ""}, {">=1.0", "1"}, {"==1+", ""}, {">1+", ""}, {most, ""}, {most, "<1"}, {most[:95], "<1"},
		} {
			l = append(l, place[0]+b+place[1])
		}
	}
	return l
}

// P10.1 and P10.7 by their words; P10.8 of what is read.
func TestParseEverywhere(t *testing.T) {
	good := 0
	for _, s := range slices.Concat(everyText(), everyByte()) {
		l, f := pyspec.Parse(s)
		if want, wrong := wanted(s); f != wrong || !slices.Equal(l, want) {
			t.Fatalf("Parse(%q) = %+v, %v, not %+v, %v", s, l, f, want, wrong)
		}
		if pyspec.Valid(s) != (f == api.Fault{}) {
			t.Fatalf("Valid(%q), and %v", s, f)
		}
		if f != (api.Fault{}) {
			continue
		}
		good++
		if again, g := pyspec.Parse(pyspec.Format(l)); g != (api.Fault{}) || !slices.Equal(again, l) {
			t.Fatalf("%q is %+v, written %q, read again %+v, %v", s, l, pyspec.Format(l), again, g)
		}
	}
	if good < 2000 {
		t.Errorf("only %d requirements among the texts", good)
	}
}

// Rule 0.5: each answer is memory of its own.
func TestAnswersAreNew(t *testing.T) {
	for _, s := range []string{"<1", "==1.*, >=2 ,===x", strings.Repeat("<1,", 31) + ">2"} {
		l, f := pyspec.Parse(s)
		kept := slices.Clone(l)
		clear(l[:cap(l)])
		if again, g := pyspec.Parse(s); f != g || !slices.Equal(again, kept) {
			t.Errorf("Parse(%q) is then %+v", s, again)
		}
	}
}
