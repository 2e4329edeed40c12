package mvnspec_test

import (
	"regexp"
	"slices"
	"strconv"
	"strings"
	"testing"

	"dovetail/api"
	"dovetail/checks"
	"dovetail/maven"
	"dovetail/mvnspec"
)

const (
	form    = api.ErrForm
	short   = api.ErrShort
	long    = api.ErrLong
	version = api.ErrVersion
	spec    = api.ErrSpec
)

// between is a range by its brackets, "[)" for one, and its ends, of which "" is none.
func between(brackets, lo, hi string) api.Mrange {
	return api.Mrange{
		HasLo: lo != "", Lo: lo, LoIn: brackets[0] == '[',
		HasHi: hi != "", Hi: hi, HiIn: brackets[1] == ']',
	}
}

func ranges(l ...api.Mrange) api.Mavens { return api.Mavens{Ranges: l} }

func soft(s string) api.Mavens { return api.Mavens{Soft: s} }

// same holds requirements against each other, nil and empty lists being the same.
func same(a, b api.Mavens) bool { return a.Soft == b.Soft && slices.Equal(a.Ranges, b.Ranges) }

// says checks what a text is read as.
func says(t *testing.T, s string, want api.Mavens) {
	t.Helper()
	if m, f := mvnspec.Parse(s); f != (api.Fault{}) || !same(m, want) {
		t.Errorf("Parse(%q) = %+v, %v, not %+v", s, m, f, want)
	}
}

// faults checks where texts go wrong.
func faults(t *testing.T, wanted map[string]api.Fault) {
	t.Helper()
	for s, want := range wanted {
		if m, f := mvnspec.Parse(s); f != want || !same(m, api.Mavens{}) {
			t.Errorf("Parse(%q) = %+v, %v, not %v", s, m, f, want)
		}
	}
}

// P9.1: a version alone, with blanks at its ends and without.
func TestSoft(t *testing.T) {
	for _, s := range []string{"1", "1.0", "1.0-SNAPSHOT", "final", "GA", "x", "-", ".", "_", "+", "1_2+3", "0", "007", strings.Repeat("1", 64), strings.Repeat("a.", 32)} {
		for _, ahead := range []string{"", " ", "\t", " \t "} {
			for _, behind := range []string{"", " ", "\t", "\t  "} {
				says(t, ahead+s+behind, soft(s))
			}
		}
	}
}

// P9.1: what is no version, and what stands behind one.
func TestSoftFaults(t *testing.T) {
	ones := strings.Repeat("1", 65)
	faults(t, map[string]api.Fault{
		"": {Err: short, At: 0}, " ": {Err: short, At: 1}, "\t": {Err: short, At: 1}, " \t ": {Err: short, At: 3},
		"!": {Err: version, At: 0}, " !": {Err: version, At: 1}, "\t !x": {Err: version, At: 2}, "1!": {Err: version, At: 0}, " 1.0! ": {Err: version, At: 1}, "^1": {Err: version, At: 0}, ">=1": {Err: version, At: 0}, "1:2": {Err: version, At: 0}, "${x}": {Err: version, At: 0}, "\n": {Err: version, At: 0}, "1\n": {Err: version, At: 0}, " \n1": {Err: version, At: 1}, "\r": {Err: version, At: 0}, "1\x00": {Err: version, At: 0}, "\xff": {Err: version, At: 0}, "1\xc2\xa0": {Err: version, At: 0}, "{1}": {Err: version, At: 0},
		ones: {Err: version, At: 0}, " " + ones + " ": {Err: version, At: 1}, ones + "!": {Err: version, At: 0}, strings.Repeat("x", 256): {Err: version, At: 0},
		"1 2": {Err: form, At: 2}, "1\t2": {Err: form, At: 2}, " 1  2": {Err: form, At: 4}, "1 !": {Err: form, At: 2}, "1 \n": {Err: form, At: 2}, "1. 0": {Err: form, At: 3}, "1 [": {Err: form, At: 2}, "1 ,": {Err: form, At: 2}, "1 ]": {Err: form, At: 2},
		"1,": {Err: form, At: 1}, "1,2": {Err: form, At: 1}, "1,[2]": {Err: form, At: 1}, "1[": {Err: form, At: 1}, "1]": {Err: form, At: 1}, "1(": {Err: form, At: 1}, "1)": {Err: form, At: 1}, "1.0[2,3]": {Err: form, At: 3}, " 1.0)": {Err: form, At: 4},
		",": {Err: form, At: 0}, "]": {Err: form, At: 0}, ")": {Err: form, At: 0}, " ,": {Err: form, At: 1}, "\t ]1": {Err: form, At: 2}, ",[1]": {Err: form, At: 0}, ")!": {Err: form, At: 0},
		// A version that is none stands ahead of what may not follow it.
		"! 2": {Err: version, At: 0}, "!,": {Err: version, At: 0}, "!]": {Err: version, At: 0}, " !  !": {Err: version, At: 1}, ones + " 2": {Err: version, At: 0},
	})
}

// P9.1: each bracket with each, with both ends, with one of them and with none.
func TestRange(t *testing.T) {
	for _, brackets := range []string{"[]", "[)", "(]", "()"} {
		opening, closing := brackets[:1], brackets[1:]
		for _, ends := range [][2]string{{"1", "2"}, {"1", ""}, {"", "2"}, {"", ""}, {"x.1+_", "1.0-SNAPSHOT"}, {"1-alpha", "1"}, {"final", "1"}, {"9", "10"}, {"18446744073709551615", "18446744073709551616"}} {
			says(t, opening+ends[0]+","+ends[1]+closing, ranges(between(brackets, ends[0], ends[1])))
		}
	}
}

// P9.1: a range without a comma.
func TestOneVersionAlone(t *testing.T) {
	for _, s := range []string{"1", "1.0", "x", "final", "-", strings.Repeat("9", 64)} {
		says(t, "["+s+"]", ranges(between("[]", s, s)))
		says(t, "[ "+s+"\t]", ranges(between("[]", s, s)))
		for _, wrong := range []string{"[" + s + ")", "(" + s + "]", "(" + s + ")", " (" + s + ")"} {
			faults(t, map[string]api.Fault{wrong: {Err: spec, At: strings.IndexAny(wrong, "[(")}})
		}
	}
	for _, wrong := range []string{"[]", "[)", "(]", "()", "[ ]", "(\t)", "[  )"} {
		faults(t, map[string]api.Fault{wrong: {Err: spec, At: 0}, " " + wrong: {Err: spec, At: 1}, wrong + "!": {Err: spec, At: 0}, "[1]," + wrong: {Err: spec, At: 4}})
	}
}

// P9.1: several ranges.
func TestRanges(t *testing.T) {
	for s, want := range map[string]api.Mavens{
		"(,1.0],[1.2,)":               ranges(between("(]", "", "1.0"), between("[)", "1.2", "")),
		"[1],[2]":                     ranges(between("[]", "1", "1"), between("[]", "2", "2")),
		"[1,1],(1,1.0.1)":             ranges(between("[]", "1", "1"), between("()", "1", "1.0.1")),
		"[1,2),[2],(2,3)":             ranges(between("[)", "1", "2"), between("[]", "2", "2"), between("()", "2", "3")),
		"[,1),(1,)":                   ranges(between("[)", "", "1"), between("()", "1", "")),
		"(1-alpha,1-beta),[1,2),[2,]": ranges(between("()", "1-alpha", "1-beta"), between("[)", "1", "2"), between("[]", "2", "")),
	} {
		says(t, s, want)
	}
}

// P9.1: blanks wherever they may stand, and nowhere else.
func TestBlanks(t *testing.T) {
	for _, pieces := range [][]string{{"[", "1.0", "]"}, {"(", "1", ",", "2", "]"}, {"[", ",", ")"}, {"(", "x", ",", ")"}, {"[", ",", "1", ")", ",", "[", "1", "]", ",", "(", "1", ",", ")"}} {
		want, f := mvnspec.Parse(strings.Join(pieces, ""))
		if f != (api.Fault{}) {
			t.Fatalf("Parse(%q): %v", pieces, f)
		}
		for _, blanks := range []string{" ", "\t", " \t "} {
			for i := range len(pieces) + 1 {
				says(t, strings.Join(pieces[:i], "")+blanks+strings.Join(pieces[i:], ""), want)
			}
			says(t, blanks+strings.Join(pieces, blanks)+blanks, want)
		}
	}
	faults(t, map[string]api.Fault{
		"[1. 0]": {Err: form, At: 4}, "[1,2 .0]": {Err: form, At: 5}, "[1,2] [3,4]": {Err: form, At: 6}, "[1]\t(1,2)": {Err: form, At: 4},
		"\n[1]": {Err: version, At: 0}, "[\n1]": {Err: version, At: 1}, "[1\r,2]": {Err: version, At: 1}, "[1,\n2]": {Err: version, At: 3}, "[1,2\v]": {Err: version, At: 3}, "[1]\n": {Err: form, At: 3}, "[1],\n[2]": {Err: form, At: 4}, "[1]\n,[2]": {Err: form, At: 3}, "[1] \r": {Err: form, At: 4},
	})
}

// P9.1: versions that are none, at their first byte.
func TestVersionFaults(t *testing.T) {
	ones := strings.Repeat("1", 65)
	faults(t, map[string]api.Fault{
		"[!]": {Err: version, At: 1}, "[ !]": {Err: version, At: 2}, "[1!]": {Err: version, At: 1}, "[!,1]": {Err: version, At: 1}, "[!,]": {Err: version, At: 1}, "[1,!]": {Err: version, At: 3}, "[,!]": {Err: version, At: 2}, "[1 , 2!]": {Err: version, At: 5}, "[1,2!": {Err: version, At: 3}, "[!": {Err: version, At: 1}, "[1\xff": {Err: version, At: 1}, "[^1,2]": {Err: version, At: 1}, "[{1},2]": {Err: version, At: 1}, "[1;2]": {Err: version, At: 1},
		"[" + ones + "]": {Err: version, At: 1}, "[1," + ones + ")": {Err: version, At: 3}, "[" + ones: {Err: version, At: 1},
		"[1,2],[!,4]": {Err: version, At: 7}, "[1,2],[3,!]": {Err: version, At: 9}, "[1] , [ ! ]": {Err: version, At: 8},
		// They are told ahead of all that is wrong behind them, and of what only the closing bracket tells.
		"[! 2]": {Err: version, At: 1}, "[![": {Err: version, At: 1}, "[!,!]": {Err: version, At: 1}, "(!)": {Err: version, At: 1}, "[!)": {Err: version, At: 1}, "[1,5],[,!]": {Err: version, At: 8}, "[1,5],[2,!]": {Err: version, At: 9}, "[1,],[!]": {Err: version, At: 6},
		// What stands ahead of them is told first.
		"[2,1],[!]": {Err: spec, At: 0}, "[1,,!]": {Err: form, At: 3}, "[1 !]": {Err: form, At: 3}, "[1]!": {Err: form, At: 3}, "[1],!": {Err: form, At: 4},
	})
	for _, s := range []string{"[" + ones[:64] + "]", "(," + ones[:64] + ")", "[0," + ones[:64] + "]"} {
		if _, f := mvnspec.Parse(s); f != (api.Fault{}) {
			t.Errorf("Parse(%q): %v", s, f)
		}
	}
}

// P9.1: ends in the wrong order, or alike.
func TestEndsOfOneRange(t *testing.T) {
	for _, ends := range []string{"2,1", "1.0.1,1", "1,1-SNAPSHOT", "10,9", "1-rc,1-beta", "1.1,1-1", "18446744073709551616,1"} {
		for _, brackets := range []string{"[]", "[)", "(]", "()"} {
			s := brackets[:1] + ends + brackets[1:]
			faults(t, map[string]api.Fault{s: {Err: spec, At: 0}, " " + s + " ": {Err: spec, At: 1}, s + "!": {Err: spec, At: 0}, s + ",[!": {Err: spec, At: 0}, "[0.1] , " + s: {Err: spec, At: 8}})
		}
	}
	for _, ends := range [][2]string{{"1", "1"}, {"1", "1.0"}, {"1.0", "1"}, {"1-ga", "1.final"}, {"1-a1", "1-ALPHA-1"}} {
		lo, hi := ends[0], ends[1]
		says(t, "["+lo+","+hi+"]", ranges(between("[]", lo, hi)))
		for _, brackets := range []string{"[)", "(]", "()"} {
			faults(t, map[string]api.Fault{brackets[:1] + lo + "," + hi + brackets[1:]: {Err: spec, At: 0}})
		}
	}
}

// P9.1: how two ranges may follow each other.
func TestNeighbours(t *testing.T) {
	for _, touch := range [][2]string{{"2", "2"}, {"2", "2.0"}, {"2-ga", "2"}} {
		says(t, "[1,"+touch[0]+"),["+touch[1]+",3]", ranges(between("[)", "1", touch[0]), between("[]", touch[1], "3")))
		says(t, "[1,"+touch[0]+"],("+touch[1]+",3]", ranges(between("[]", "1", touch[0]), between("(]", touch[1], "3")))
		says(t, "[1,"+touch[0]+"),("+touch[1]+",3]", ranges(between("[)", "1", touch[0]), between("(]", touch[1], "3")))
		faults(t, map[string]api.Fault{"[1," + touch[0] + "],[" + touch[1] + ",3]": {Err: spec, At: 5 + len(touch[0])}})
	}
	for s, at := range map[string]int{
		"[1,2],[1.5,3]": 6, "[1,2),(1.5,3)": 6, "[1,3),[2]": 6, "[1,2],[2-SNAPSHOT,3]": 6, "[3,4],[1,2]": 6, "(3,4),(1,2)": 6, "[2],[1]": 4, "[1],[1]": 4, "[1],[1.0]": 4, "[1,2],[1,2]": 6, "[1],[1,2)": 4,
		"[1,],[2,3]": 5, "[1,),[2,3]": 5, "(,),[1]": 4, "[1,),(,3]": 5, "[,],[,]": 4,
		"[1,2],[,3]": 6, "[1,2],(,3]": 6, "[1,2],(,]": 6, "[1,2),(,1)": 6, "[,2],[,3]": 5,
		"[1],[2],[2]": 8, "[1],[3],[2]": 8, "[1,2] ,\t[1.5,3]": 8, "[1],[2,],[3]": 9, "[1],[2],(,)": 8,
		// The first one that is wrong is told, and ahead of what stands behind it.
		"[1],[1],[1]": 4, "[1],[1]!": 4, "[1],[1],!": 4, "[1],(2),[1]": 4, "[1],[3,2],[1]": 4,
	} {
		faults(t, map[string]api.Fault{s: {Err: spec, At: at}})
	}
	// What is not closed is held against nothing.
	faults(t, map[string]api.Fault{"[1],[1": {Err: short, At: 6}, "[1],[1,": {Err: short, At: 7}, "[1],[1 1]": {Err: form, At: 7}, "[2,1": {Err: short, At: 4}, "[2,1,": {Err: form, At: 4}, "(1": {Err: short, At: 2}, "(1[": {Err: form, At: 2}})
}

// P9.1: texts that end where they may not.
func TestShort(t *testing.T) {
	for _, s := range []string{
		"[", "(", " [", "[ ", "(\t", "[1", "(1.0", "[1 ", "[1,", "(,", "[ , ", "[1, ", "[1,2", "[,2", "(1,2 ", "[1,2\t",
		"[1],", "[1] ,", "[1], ", "[1]\t,\t", "[1],[", "[1],(", "[1],[ ", "[1],[2", "[1],[2,", "[1],[2,3", "[1],[2],", "(,1),(1,",
	} {
		faults(t, map[string]api.Fault{s: {Err: short, At: len(s)}})
	}
}

// P9.1: a wrong byte at each kind of place.
func TestWrongBytes(t *testing.T) {
	faults(t, map[string]api.Fault{
		"[[": {Err: form, At: 1}, "[(": {Err: form, At: 1}, "([1]": {Err: form, At: 1}, "[ [1]": {Err: form, At: 2}, "((1,2))": {Err: form, At: 1},
		"[1[": {Err: form, At: 2}, "[1(": {Err: form, At: 2}, "[1 [": {Err: form, At: 3}, "[1 (,": {Err: form, At: 3}, "[1 2": {Err: form, At: 3}, "[1 2]": {Err: form, At: 3}, "[1\t!]": {Err: form, At: 3},
		"[,,": {Err: form, At: 2}, "[1,,2]": {Err: form, At: 3}, "[1, ,2]": {Err: form, At: 4}, "[1,[": {Err: form, At: 3}, "[1,(2)]": {Err: form, At: 3}, "[,(": {Err: form, At: 2}, "[, [1]": {Err: form, At: 3},
		"[1,2,": {Err: form, At: 4}, "[1,2,3]": {Err: form, At: 4}, "[1,2 ,3]": {Err: form, At: 5}, "[1,2[": {Err: form, At: 4}, "[1,2(": {Err: form, At: 4}, "[1,2 3]": {Err: form, At: 5}, "[1,2 [": {Err: form, At: 5}, "[,2,": {Err: form, At: 3},
		"[1]]": {Err: form, At: 3}, "[1])": {Err: form, At: 3}, "[1][": {Err: form, At: 3}, "[1](": {Err: form, At: 3}, "[1]1": {Err: form, At: 3}, "[1]!": {Err: form, At: 3}, "[1]\n": {Err: form, At: 3}, "[1] 1": {Err: form, At: 4}, "[1] [2]": {Err: form, At: 4}, "[1,2)]": {Err: form, At: 5}, "[1,2)\xff": {Err: form, At: 5}, "[1]\x00": {Err: form, At: 3},
		"[1],,": {Err: form, At: 4}, "[1],2": {Err: form, At: 4}, "[1],]": {Err: form, At: 4}, "[1],)": {Err: form, At: 4}, "[1], 2": {Err: form, At: 5}, "[1],!": {Err: form, At: 4}, "[1] , ,[2]": {Err: form, At: 6}, "[1],\n": {Err: form, At: 4},
		"[1],[2]]": {Err: form, At: 7}, "[1],[2],3": {Err: form, At: 8}, "[1],[2 3]": {Err: form, At: 7}, "[1],[[": {Err: form, At: 5}, "[1],(2,3,": {Err: form, At: 8},
	})
}

// P9.1: the bytes of a text.
func TestLength(t *testing.T) {
	blanks := strings.Repeat(" ", api.MaxSpec)
	says(t, blanks[:255]+"1", soft("1"))
	says(t, "1"+blanks[:255], soft("1"))
	says(t, "["+blanks[:253]+"1]", ranges(between("[]", "1", "1")))
	faults(t, map[string]api.Fault{
		blanks:                      {Err: short, At: 256},
		blanks + " ":                {Err: long, At: 256},
		blanks + "1":                {Err: long, At: 256},
		"1" + blanks:                {Err: long, At: 256},
		"!" + blanks:                {Err: long, At: 256},
		"[2,1]" + blanks:            {Err: long, At: 256},
		"[1]" + blanks[:253] + "!":  {Err: long, At: 256},
		"[1]" + blanks[:252] + "!":  {Err: form, At: 255},
		"[1]" + blanks[:252] + ",":  {Err: short, At: 256},
		"[" + blanks[:255]:          {Err: short, At: 256},
		"[" + blanks[:254] + "]":    {Err: spec, At: 0},
		blanks[:255] + "!":          {Err: version, At: 255},
		strings.Repeat("[", 5000):   {Err: long, At: 256},
		strings.Repeat("1", 1<<20):  {Err: long, At: 256},
		strings.Repeat("[1],", 100): {Err: long, At: 256},
	})
}

// rising is the texts of so many ranges, each of one version, with commas between.
func rising(count int) string {
	var l []string
	for i := range count {
		l = append(l, "["+strconv.Itoa(i)+"]")
	}
	return strings.Join(l, ",")
}

// P9.1: how many ranges.
func TestCount(t *testing.T) {
	most := rising(32)
	if m, f := mvnspec.Parse(most); f != (api.Fault{}) || len(m.Ranges) != 32 || m.Ranges[31] != between("[]", "31", "31") || !mvnspec.Fit(m) || mvnspec.Text(m) != most {
		t.Errorf("Parse of 32 ranges = %+v, %v", m, f)
	}
	end := len(most)
	faults(t, map[string]api.Fault{
		rising(33):                 {Err: long, At: end + 1},
		rising(40):                 {Err: long, At: end + 1},
		most + "\t, [32]":          {Err: long, At: end + 3},
		most + ",(40,)":            {Err: long, At: end + 1},
		most + ",(,)":              {Err: long, At: end + 1},
		most + ",[":                {Err: long, At: end + 1},
		most + ",(":                {Err: long, At: end + 1},
		most + ",[!]":              {Err: long, At: end + 1},
		most + ",[[":               {Err: long, At: end + 1},
		most + ",[2,1]":            {Err: long, At: end + 1},
		most + ",()":               {Err: long, At: end + 1},
		most + ",":                 {Err: short, At: end + 1},
		most + ", ":                {Err: short, At: end + 2},
		most + ",!":                {Err: form, At: end + 1},
		most + ",,":                {Err: form, At: end + 1},
		most + ",32":               {Err: form, At: end + 1},
		most + ",]":                {Err: form, At: end + 1},
		most + "[32]":              {Err: form, At: end},
		most + "!":                 {Err: form, At: end},
		rising(31) + ",[30],[31]":  {Err: spec, At: len(rising(31)) + 1},
		rising(31) + ",[!],[32]":   {Err: version, At: len(rising(31)) + 2},
		rising(31) + ",[31 2],[9]": {Err: form, At: len(rising(31)) + 5},
	})
}

const (
	blanksForm  = `[ \t]*`
	versionForm = `[^ \t,\[\]()]+`
	rangeForm   = `([\[(])` + blanksForm + `(` + versionForm + `)?` + blanksForm + `(?:(,)` + blanksForm + `(` + versionForm + `)?` + blanksForm + `)?([\])])`
)

var (
	wholeText   = regexp.MustCompile(`^` + blanksForm + `(` + versionForm + `|` + rangeForm + `(` + blanksForm + `,` + blanksForm + rangeForm + `)*)` + blanksForm + `$`)
	oneVersion  = regexp.MustCompile(versionForm)
	oneRange    = regexp.MustCompile(rangeForm)
	bracket     = regexp.MustCompile(`[\[(]`)
	goodVersion = regexp.MustCompile(`^[0-9A-Za-z._+-]{1,64}$`)
)

// told is a fault and the byte up to which a text is read when it is told.
type told struct {
	api.Fault
	by int
}

// wantedFault is the chapter's section 'Faults': of all that could be told that which is told with the fewest bytes read.
func wantedFault(s string) api.Fault {
	if len(s) > 256 {
		return api.Fault{Err: long, At: 256}
	}
	end := checks.Begins(s, []string{"", "1", "]", "[]"}, wholeText.MatchString)
	first := told{by: len(s) + 1}
	tell := func(err api.Errno, at, by int) {
		if by < first.by {
			first = told{api.Fault{Err: err, At: at}, by}
		}
	}
	if end < len(s) {
		tell(form, end, end)
	} else if !wholeText.MatchString(s) {
		tell(short, end, end)
	}
	for _, place := range oneVersion.FindAllStringIndex(s[:end], -1) {
		if !goodVersion.MatchString(s[place[0]:place[1]]) {
			tell(version, place[0], place[1]-1)
		}
	}
	all := closedRanges(s[:end])
	for i, r := range all {
		if !r.goesBehind(all[:i]) {
			tell(spec, r.start, r.end-1)
		}
	}
	for i, place := range bracket.FindAllStringIndex(s[:end], -1) {
		if i == 32 {
			tell(long, place[0], place[0])
		}
	}
	return first.Fault
}

// closed is a range of a text, with its closing bracket.
type closed struct {
	api.Mrange
	comma      bool
	start, end int
}

// closedRanges is all of a text whose form is right.
func closedRanges(s string) []closed {
	var l []closed
	places := oneRange.FindAllStringIndex(s, -1)
	for i, part := range oneRange.FindAllStringSubmatch(s, -1) {
		r := closed{comma: part[3] != "", start: places[i][0], end: places[i][1]}
		r.Mrange = between(part[1]+part[5], part[2], part[4])
		if !r.comma {
			r.Mrange = between(part[1]+part[5], part[2], part[2])
		}
		l = append(l, r)
	}
	return l
}

// goesBehind is the chapter's words on ErrSpec.
func (r closed) goesBehind(all []closed) bool {
	if !r.comma && !(r.LoIn && r.HiIn && r.HasLo) {
		return false
	}
	var before []api.Mrange
	for _, other := range all {
		before = append(before, other.Mrange)
	}
	return mayFollow(before, r.Mrange)
}

// mayFollow is the same words, of a range's ends and of those ahead of it.
func mayFollow(before []api.Mrange, r api.Mrange) bool {
	if r.HasLo && r.HasHi {
		order := maven.Compare(r.Lo, r.Hi)
		if order > 0 || order == 0 && !(r.LoIn && r.HiIn) {
			return false
		}
	}
	if len(before) == 0 {
		return true
	}
	last := before[len(before)-1]
	if !last.HasHi || !r.HasLo {
		return false
	}
	order := maven.Compare(last.Hi, r.Lo)
	return order < 0 || order == 0 && !(last.HiIn && r.LoIn)
}

// wantedSays is the chapter's section 'Parsed', of a text without a fault.
func wantedSays(s string) api.Mavens {
	s = strings.Trim(s, " \t")
	if s[0] != '[' && s[0] != '(' {
		return soft(s)
	}
	var m api.Mavens
	for _, r := range closedRanges(s) {
		m.Ranges = append(m.Ranges, r.Mrange)
	}
	return m
}

// everyText is all short texts, and all short rows of what requirements are made of.
func everyText() []string {
	return slices.Concat(
		checks.Texts("1[),! ", 6),
		checks.Texts("12[](),\t", 5),
		checks.Rows([]string{"[", "1", ",", "2", "1.0", ")", "("}, 5),
		checks.Rows([]string{"[1,2]", "(2,3)", "[2,)", "(,1]", "[2]", ",", "[1,2.0)", " "}, 5),
		checks.Rows([]string{"[1],", "(1,2],", "(2,", "3", ")", "[!]", "(2)"}, 5),
	)
}

// everyByte is each byte at each kind of place.
func everyByte() []string {
	var l []string
	for c := range 256 {
		b := string([]byte{byte(c)})
		for _, place := range [][2]string{
			{"", ""}, {"", "1"}, {" ", "[1]"}, {"1", ""}, {"1", "2"}, {"1 ", ""}, {"[", "1]"}, {"(", ",1]"}, {"[ ", "]"}, {"[1", "]"}, {"[1", "2]"}, {"[1 ", "]"}, {"[1 ", ",2]"}, {"[1,", "]"}, {"[1,", "2]"}, {"[1, ", "2]"}, {"[1,2", "]"}, {"[1,2", ")"}, {"[1,2 ", "]"}, {"[1,2", ""}, {"[1,2]", ""}, {"[1,2]", "[3]"}, {"[1,2] ", "[3]"}, {"[1,2],", "[3]"}, {"[1,2],", "3]"}, {"[1,2], ", ""}, {"[1],[2", "]"}, {rising(32) + ",", "99]"},
		} {
			l = append(l, place[0]+b+place[1])
		}
	}
	return l
}

// P9.1 by its words; P9.6 of what is read.
func TestParseEverywhere(t *testing.T) {
	good := 0
	for _, s := range slices.Concat(everyText(), everyByte()) {
		m, f := mvnspec.Parse(s)
		if want := wantedFault(s); f != want {
			t.Fatalf("Parse(%q) = %v, not %v", s, f, want)
		}
		if f != (api.Fault{}) {
			if !same(m, api.Mavens{}) {
				t.Fatalf("Parse(%q) = %+v beside %v", s, m, f)
			}
			continue
		}
		good++
		if want := wantedSays(s); !same(m, want) || !mvnspec.Fit(m) {
			t.Fatalf("Parse(%q) = %+v, not %+v, or it is not fit", s, m, want)
		}
		if again, g := mvnspec.Parse(mvnspec.Text(m)); g != (api.Fault{}) || !same(m, again) {
			t.Fatalf("%q is %+v, written %q, read again %+v, %v", s, m, mvnspec.Text(m), again, g)
		}
	}
	if good < 2000 {
		t.Errorf("only %d requirements among the texts", good)
	}
}

// Rule 0.5: each answer is memory of its own.
func TestAnswersAreNew(t *testing.T) {
	for _, s := range []string{"[1]", "(,1),[2,3],(4,)", rising(32)} {
		m, f := mvnspec.Parse(s)
		kept := slices.Clone(m.Ranges)
		clear(m.Ranges[:cap(m.Ranges)])
		if again, g := mvnspec.Parse(s); f != g || !slices.Equal(again.Ranges, kept) {
			t.Errorf("Parse(%q) is then %+v", s, again)
		}
	}
}
