package npmspec_test

import (
	"regexp"
	"slices"
	"strings"
	"testing"

	"dovetail/api"
	"dovetail/checks"
	"dovetail/npmspec"
)

const (
	form   = api.ErrForm
	short  = api.ErrShort
	long   = api.ErrLong
	nought = api.ErrZero
)

// faults checks where texts go wrong.
func faults(t *testing.T, wanted map[string]api.Fault) {
	t.Helper()
	for s, want := range wanted {
		if l, f := npmspec.Parse(s); f != want || len(l) > 0 {
			t.Errorf("Parse(%q) = %v, %v, not %v", s, l, f, want)
		}
	}
}

// P8.1: bytes with which no range goes on, at each kind of place.
func TestWrongBytes(t *testing.T) {
	faults(t, map[string]api.Fault{
		"!": {Err: form, At: 0}, "a": {Err: form, At: 0}, ".": {Err: form, At: 0}, "-": {Err: form, At: 0}, "+": {Err: form, At: 0}, "V1": {Err: form, At: 0}, "\n": {Err: form, At: 0}, "\xff": {Err: form, At: 0}, "\x00": {Err: form, At: 0}, " !": {Err: form, At: 1}, " - 1": {Err: form, At: 1},
		"=>1": {Err: form, At: 1}, "==1": {Err: form, At: 1}, "<<1": {Err: form, At: 1}, ">>1": {Err: form, At: 1}, "^^1": {Err: form, At: 1}, "~~1": {Err: form, At: 1}, "^~1": {Err: form, At: 1}, "=<1": {Err: form, At: 1}, "^>1": {Err: form, At: 1}, "~=1": {Err: form, At: 1}, "~>=1": {Err: form, At: 2}, "<==1": {Err: form, At: 2}, ">= =1": {Err: form, At: 3},
		"> =1": {Err: form, At: 2}, "~ >1": {Err: form, At: 2}, "< >1": {Err: form, At: 2}, "^||1": {Err: form, At: 1}, "^ ||1": {Err: form, At: 2}, "<|": {Err: form, At: 1}, "^-1": {Err: form, At: 1}, "^ - 1": {Err: form, At: 2}, "^ \n1": {Err: form, At: 2},
		"vv1": {Err: form, At: 1}, "v 1": {Err: form, At: 1}, "v.1": {Err: form, At: 1}, "v|": {Err: form, At: 1}, "v=1": {Err: form, At: 1}, "=v>1": {Err: form, At: 2},
		"1a": {Err: form, At: 1}, "1v": {Err: form, At: 1}, "1x": {Err: form, At: 1}, "x1": {Err: form, At: 1}, "xx": {Err: form, At: 1}, "**": {Err: form, At: 1}, "1*": {Err: form, At: 1}, "1-": {Err: form, At: 1}, "1-a": {Err: form, At: 1}, "1+a": {Err: form, At: 1}, "x-a": {Err: form, At: 1}, "x+": {Err: form, At: 1}, "1<2": {Err: form, At: 1}, "1^": {Err: form, At: 1}, "1=": {Err: form, At: 1}, "1\n": {Err: form, At: 1}, "1,2": {Err: form, At: 1}, "1\xc2\xa0": {Err: form, At: 1},
		"1..2": {Err: form, At: 2}, "1. 2": {Err: form, At: 2}, "1.|": {Err: form, At: 2}, "1.v2": {Err: form, At: 2}, "1.a": {Err: form, At: 2}, "1.-": {Err: form, At: 2}, "x.y": {Err: form, At: 2},
		"1.2-": {Err: form, At: 3}, "1.2-a": {Err: form, At: 3}, "1.2+a": {Err: form, At: 3}, "1.x-a": {Err: form, At: 3}, "1.*+": {Err: form, At: 3}, "1.2a": {Err: form, At: 3}, "1.2x": {Err: form, At: 3},
		"1.2..": {Err: form, At: 4}, "1.2. ": {Err: form, At: 4}, "1.2.x-a": {Err: form, At: 5}, "1.x.3-a": {Err: form, At: 5}, "x.2.3-a": {Err: form, At: 5}, "1.2.X+a": {Err: form, At: 5}, "1.2.*-": {Err: form, At: 5}, "1.2.3.": {Err: form, At: 5}, "1.2.3.4": {Err: form, At: 5}, "1.2.3a": {Err: form, At: 5}, "1.2.3_": {Err: form, At: 5}, "1.2.3x": {Err: form, At: 5}, "1.2.x.": {Err: form, At: 5}, "x.x.xx": {Err: form, At: 5}, "1.2.3<4": {Err: form, At: 5}, "1.2.3~": {Err: form, At: 5}, "1.2.3*": {Err: form, At: 5},
		"1.2.3- 1": {Err: form, At: 6}, "1.2.3-|": {Err: form, At: 6}, "1.2.3-.": {Err: form, At: 6}, "1.2.3-+": {Err: form, At: 6}, "1.2.3-_": {Err: form, At: 6}, "1.2.3-a_": {Err: form, At: 7}, "1.2.3-a..": {Err: form, At: 8}, "1.2.3-a. ": {Err: form, At: 8}, "1.2.3-a.+": {Err: form, At: 8}, "1.2.3-a*": {Err: form, At: 7}, "1.2.3-a>1": {Err: form, At: 7}, "1.2.3-0\n": {Err: form, At: 7}, "1.2.3-\xff": {Err: form, At: 6},
		"1.2.3+ 1": {Err: form, At: 6}, "1.2.3+|": {Err: form, At: 6}, "1.2.3+.": {Err: form, At: 6}, "1.2.3++": {Err: form, At: 6}, "1.2.3+a+": {Err: form, At: 7}, "1.2.3+a..": {Err: form, At: 8}, "1.2.3-a+ ": {Err: form, At: 8}, "1.2.3-a+b+c": {Err: form, At: 9}, "1.2.3+01!": {Err: form, At: 8}, "1.2.3+01+": {Err: form, At: 8},
		"1.2 .3": {Err: form, At: 4}, "1 !": {Err: form, At: 2}, "1 a": {Err: form, At: 2}, "1 2 !": {Err: form, At: 4}, "1 +": {Err: form, At: 2}, "1 2 - 3": {Err: form, At: 4}, "=1 - 2": {Err: form, At: 3}, "^1 - 2": {Err: form, At: 3}, "= 1 - 2": {Err: form, At: 4}, "1 2 -": {Err: form, At: 4},
		"1 -2": {Err: form, At: 3}, "1 -v2": {Err: form, At: 3}, "1 --": {Err: form, At: 3}, "1 -|": {Err: form, At: 3}, "1 -||": {Err: form, At: 3}, "1 -\n2": {Err: form, At: 3}, "1 - =2": {Err: form, At: 4}, "1 - ^2": {Err: form, At: 4}, "1 - ||": {Err: form, At: 4}, "1 - -": {Err: form, At: 4}, "1  -  !": {Err: form, At: 6}, "1.2.3 -4": {Err: form, At: 7}, "1.2.3 -a": {Err: form, At: 7},
		"1 - 2 3": {Err: form, At: 6}, "1 - 2 - 3": {Err: form, At: 6}, "1 - 2 <3": {Err: form, At: 6}, "1 - 2 !": {Err: form, At: 6}, "1 - 2!": {Err: form, At: 5}, "1 - 2  *": {Err: form, At: 7}, "1 - 2 -": {Err: form, At: 6}, "1 - 2.3-a": {Err: form, At: 7},
		"|1": {Err: form, At: 1}, "| |": {Err: form, At: 1}, "1|2": {Err: form, At: 2}, "1 | 2": {Err: form, At: 3}, "1 || | 2": {Err: form, At: 6}, "|||": {Err: short, At: 3}, "||| ": {Err: form, At: 3}, "|||1": {Err: form, At: 3}, "1||!": {Err: form, At: 3}, "1 - 2|3": {Err: form, At: 6}, "1||2||^||3": {Err: form, At: 7},
	})
}

// P8.1: zeros ahead.
func TestZerosAhead(t *testing.T) {
	faults(t, map[string]api.Fault{
		"00": {Err: nought, At: 1}, "01": {Err: nought, At: 1}, "v01": {Err: nought, At: 2}, "^01": {Err: nought, At: 2}, "^ 00.x": {Err: nought, At: 3}, "1.02": {Err: nought, At: 3}, "1.2.03": {Err: nought, At: 5}, "1.2.00-a": {Err: nought, At: 5}, "x.00": {Err: nought, At: 3}, "x.x.01": {Err: nought, At: 5}, "1 00": {Err: nought, At: 3}, "1 - 00": {Err: nought, At: 5}, "00 - 1": {Err: nought, At: 1}, "1||00": {Err: nought, At: 4}, "1||1.01!": {Err: nought, At: 6}, "01!": {Err: nought, At: 1},
		"1.2.3-01.x": {Err: nought, At: 8}, "1.2.3-01+x": {Err: nought, At: 8}, "1.2.3-01 ": {Err: nought, At: 8}, "1.2.3-01\t2": {Err: nought, At: 8}, "1.2.3-01|": {Err: nought, At: 8}, "1.2.3-01||": {Err: nought, At: 8}, "1.2.3-01!": {Err: nought, At: 8}, "1.2.3-01_": {Err: nought, At: 8}, "1.2.3-01\xff": {Err: nought, At: 8}, "1.2.3-00 - 2": {Err: nought, At: 8}, "1.2.3-00*": {Err: nought, At: 8},
		"1.2.3-a.007.b": {Err: nought, At: 11}, "1.2.3-a.007 ": {Err: nought, At: 11}, "1.2.3-1.00|": {Err: nought, At: 10}, "1 - 1.2.3-01 ": {Err: nought, At: 12}, "1.2.3||1.2.3-00+": {Err: nought, At: 15},
		"1.2.3-01": {Err: short, At: 8}, "1.2.3-00": {Err: short, At: 8}, "1.2.3-a.000": {Err: short, At: 11}, "1 - 1.2.3-01": {Err: short, At: 12},
	})
	for _, s := range []string{"0", "0.0.0", "x.0", "1.2.3-0", "1.2.3-0.0", "1.2.3-01a", "1.2.3-00-", "1.2.3-a+00", "1.2.3+01", "1.2.3+01 1", "1.2.3+00||1", "1.2.3-0a.1"} {
		if !npmspec.Valid(s) {
			t.Errorf("%q is no range", s)
		}
	}
}

// P8.1: texts that end too early.
func TestShort(t *testing.T) {
	for _, s := range []string{
		"^", "~", "~>", "<", "<=", ">", ">=", "=", "^ ", "~> \t", "v", "^v", "1.", "v1.", "x.", "1.2.", "1.x.", "x.x.", "1.2.3-", "1.2.3+", "1.2.3-a.", "1.2.3-a+", "1.2.3+a.", "1.2.3-a+b.", "1.2.3-0.",
		"1 ^", "1 v", "1 2 >= ", "1 -", "1\t-", "1 - ", "1 -\t ", "1 - v", "1 - 2.", "1 - 1.2.3-", "|", "1|", "1 |", "1|| |", "1||^", " |", "1 - 2|", "1 - 2 |", "x||v", "1.2.3--|",
	} {
		faults(t, map[string]api.Fault{s: {Err: short, At: len(s)}})
	}
}

// P8.1: the bytes of a range.
func TestLengthOfRanges(t *testing.T) {
	blanks := strings.Repeat(" ", api.MaxSpec)
	means(t, blanks, "*")
	means(t, blanks[:255]+"1", ">=1.0.0 <2.0.0-0")
	means(t, "1"+blanks[:255], ">=1.0.0 <2.0.0-0")
	faults(t, map[string]api.Fault{
		blanks + " ":                {Err: long, At: 256},
		blanks + "!":                {Err: long, At: 256},
		"!" + blanks:                {Err: long, At: 256},
		"^" + blanks[:255]:          {Err: short, At: 256},
		blanks[:255] + "!":          {Err: form, At: 255},
		blanks[:255] + "|":          {Err: short, At: 256},
		strings.Repeat("|", 5000):   {Err: long, At: 256},
		strings.Repeat("1 ", 1<<20): {Err: long, At: 256},
	})
}

// P8.1: the bytes of a partial, wherever it stands.
func TestLengthOfPartials(t *testing.T) {
	nines, letters := strings.Repeat("9", 100), strings.Repeat("a", 100)
	for _, p := range []string{nines[:48], "v" + nines[:47], nines[:46] + ".9", "1." + nines[:46], "1.2." + nines[:44], "1.2.3-" + letters[:42], "1.2.3-0." + nines[:40], "v1.2.3+" + letters[:41], "x.x." + nines[:44], "1.2.3-a+" + letters[:40], "1.2.3-" + strings.Repeat("0", 41) + "a"} {
		for _, ahead := range []string{"", "^", " ", ">= ", "1||", "1 ", "1 - ", "x - "} {
			if len(p) != api.MaxPart || !npmspec.Valid(ahead+p) || !npmspec.Valid(ahead+p+" ") || !npmspec.Valid(ahead+p+"||") {
				t.Errorf("%q is no range", ahead+p)
			}
			at := len(ahead) + api.MaxPart
			faults(t, map[string]api.Fault{
				ahead + p + "9":                  {Err: long, At: at},
				ahead + p + "9!":                 {Err: long, At: at},
				ahead + p + "9" + letters:        {Err: long, At: at},
				ahead + p + "!":                  {Err: form, At: at},
				ahead + p + "|!":                 {Err: form, At: at + 1},
				ahead + p + "<1":                 {Err: form, At: at},
				ahead + p + "9 " + nines[:49]:    {Err: long, At: at},
				ahead + p + "\xff" + letters[:9]: {Err: form, At: at},
			})
		}
	}
}

// P8.1: what stands at a partial's 49th byte, where it is not plain that the partial would go on.
func TestFortyNinthByte(t *testing.T) {
	nines, letters, zeros := strings.Repeat("9", 100), strings.Repeat("a", 100), strings.Repeat("0", 100)
	faults(t, map[string]api.Fault{
		nines[:48] + ".":                       {Err: long, At: 48},
		nines[:46] + ".9.":                     {Err: long, At: 48},
		nines[:44] + ".9.9.":                   {Err: form, At: 48},
		nines[:44] + ".9.9-":                   {Err: long, At: 48},
		nines[:44] + ".9.9+":                   {Err: long, At: 48},
		nines[:46] + ".x-":                     {Err: form, At: 48},
		nines[:46] + ".x.":                     {Err: long, At: 48},
		nines[:46] + ".x9":                     {Err: form, At: 48},
		nines[:46] + ".0" + "1":                {Err: nought, At: 48},
		nines[:47] + ".":                       {Err: short, At: 48},
		nines[:47] + ".x":                      {Err: long, At: 48},
		nines[:47] + ".0":                      {Err: long, At: 48},
		nines[:47] + ".00":                     {Err: long, At: 48},
		nines[:47] + ".!":                      {Err: form, At: 48},
		nines[:47] + ". ":                      {Err: form, At: 48},
		"1.2.3-" + letters[:41] + ".":          {Err: short, At: 48},
		"1.2.3-" + letters[:41] + "..":         {Err: form, At: 48},
		"1.2.3-" + letters[:41] + ".0":         {Err: long, At: 48},
		"1.2.3-" + letters[:41] + ". ":         {Err: form, At: 48},
		"1.2.3-" + letters[:42] + "+":          {Err: long, At: 48},
		"1.2.3-" + letters[:42] + "-":          {Err: long, At: 48},
		"1.2.3-" + letters[:42] + ".":          {Err: long, At: 48},
		"1.2.3+" + letters[:42] + "+":          {Err: form, At: 48},
		"1.2.3+" + letters[:42] + ".":          {Err: long, At: 48},
		"1.2.3+" + letters[:41] + ".":          {Err: short, At: 48},
		"1.2.3-" + zeros[:42]:                  {Err: short, At: 48},
		"1.2.3-" + zeros[:42] + " ":            {Err: nought, At: 48},
		"1.2.3-" + zeros[:42] + ".":            {Err: nought, At: 48},
		"1.2.3-" + zeros[:42] + "+":            {Err: nought, At: 48},
		"1.2.3-" + zeros[:42] + "!":            {Err: nought, At: 48},
		"1.2.3-" + zeros[:42] + "a":            {Err: long, At: 48},
		"1.2.3-" + zeros[:42] + "0":            {Err: long, At: 48},
		"1.2.3-" + zeros[:43] + ".":            {Err: long, At: 48},
		"1.2.3-" + zeros[:80] + " ":            {Err: long, At: 48},
		"1.2.3-" + letters[:90] + "..":         {Err: long, At: 48},
		"1.2.3-" + letters[:30] + "..":         {Err: form, At: 37},
		"1.2.3-" + letters[:30] + ".01.":       {Err: nought, At: 39},
		"1.2.3-" + letters[:30] + ".." + nines: {Err: form, At: 37},
		"1.2.3+" + letters[:9] + "+" + letters: {Err: form, At: 15},
		letters + "!":                          {Err: form, At: 0},
		"01" + nines:                           {Err: nought, At: 1},
	})
}

// P8.1: the parts of a set.
func TestCountOfParts(t *testing.T) {
	most := strings.Repeat("1 ", 32)
	if l, f := npmspec.Parse(most); f != (api.Fault{}) || len(l) != 1 || len(l[0]) != 64 {
		t.Errorf("Parse of 32 parts = %v, %v", l, f)
	}
	if l, f := npmspec.Parse(most + "||" + most + "|| 1 - 2 ||" + most); f != (api.Fault{}) || len(l) != 4 || len(l[3]) != 64 {
		t.Errorf("Parse of 32 parts thrice = %v, %v", l, f)
	}
	for _, first := range []string{"1", "x", "*", "v", "^", "<", "=", "!", "-", "a", "\n", "\xff", "+", "."} {
		faults(t, map[string]api.Fault{
			most + first:                    {Err: long, At: 64},
			most + first + "1":              {Err: long, At: 64},
			most + "  \t" + first:           {Err: long, At: 67},
			"1||" + most + first:            {Err: long, At: 67},
			most[:62] + " " + first + " 00": wrongBefore(first, 63),
		})
	}
	faults(t, map[string]api.Fault{
		most + "| ":                            {Err: form, At: 65},
		most + "|":                             {Err: short, At: 65},
		most[:63] + "<1":                       {Err: form, At: 63},
		most[:63] + "!":                        {Err: form, At: 63},
		most[:63] + "a 1":                      {Err: form, At: 63},
		strings.Repeat("* ", 32) + "1":         {Err: long, At: 64},
		strings.Repeat(">* ", 32) + "\t>*":     {Err: long, At: 97},
		strings.Repeat("1 ", 31) + "1 - 2":     {Err: long, At: 64},
		"!" + strings.Repeat("1 ", 40):         {Err: form, At: 0},
		strings.Repeat("1 ", 40) + "!":         {Err: long, At: 64},
		strings.Repeat("1 ", 32) + "1||" + "!": {Err: long, At: 64},
	})
}

// wrongBefore is what is wrong with a 32nd part that begins so, at a place, with " 00" behind it: that part itself, or the 33rd one.
func wrongBefore(first string, at int) api.Fault {
	switch first {
	case "1", "x", "*":
		return api.Fault{Err: long, At: at + 2}
	case "^", "<", "=":
		return api.Fault{Err: nought, At: at + 3}
	case "v":
		return api.Fault{Err: form, At: at + 1}
	}
	return api.Fault{Err: form, At: at}
}

// P8.1: the sets of a range.
func TestCountOfSets(t *testing.T) {
	for _, set := range []string{"", "1", " ", "1 - 2"} {
		most := strings.Repeat(set+"||", 31)
		if l, f := npmspec.Parse(most + set); f != (api.Fault{}) || len(l) != 32 {
			t.Errorf("Parse of 32 sets of %q: %d, %v", set, len(l), f)
		}
		end := len(most + set)
		faults(t, map[string]api.Fault{
			most + set + "|":              {Err: short, At: end + 1},
			most + set + "||":             {Err: long, At: end + 1},
			most + set + "|||":            {Err: long, At: end + 1},
			most + set + "||1":            {Err: long, At: end + 1},
			most + set + "||!":            {Err: long, At: end + 1},
			most + set + "|!":             {Err: form, At: end + 1},
			most + set + "| |":            {Err: form, At: end + 1},
			most + "!" + "||":             {Err: form, At: len(most)},
			most + "1" + "!" + set + "||": {Err: form, At: len(most) + 1},
		})
	}
}

const (
	numberForm  = `(0|[1-9][0-9]*)`
	someForm    = `(0|[1-9][0-9]*|[xX*])`
	preForm     = `(0|[1-9][0-9]*|[0-9]*[A-Za-z-][0-9A-Za-z-]*)`
	buildForm   = `[0-9A-Za-z-]+`
	versionForm = numberForm + `\.` + numberForm + `\.` + numberForm + `(-` + preForm + `(\.` + preForm + `)*)?(\+` + buildForm + `(\.` + buildForm + `)*)?`
	partialForm = `v?(` + someForm + `(\.` + someForm + `(\.` + someForm + `)?)?|` + versionForm + `)`
	partForm    = `((<|<=|>|>=|=|~|~>|\^)[ \t]*)?` + partialForm
	setForm     = `[ \t]*(` + partialForm + `[ \t]+-[ \t]+` + partialForm + `|` + partForm + `([ \t]+` + partForm + `)*)?[ \t]*`
)

// oracle is the chapter's section 'The text' as a form.
type oracle struct{ whole, zeroPre *regexp.Regexp }

func newOracle() oracle {
	return oracle{
		whole:   regexp.MustCompile(`^` + setForm + `(\|\|` + setForm + `)*$`),
		zeroPre: regexp.MustCompile(numberForm + `\.` + numberForm + `\.` + numberForm + `-(` + preForm + `\.)*0[0-9]+$`),
	}
}

// fault is P8.1 by its words, of texts that no limit cuts: the first byte behind which no end makes a range of the text.
func (o oracle) fault(s string) api.Fault {
	at := checks.Begins(s, []string{"", "1", "a", "|", " 1"}, o.whole.MatchString)
	switch {
	case o.whole.MatchString(s):
		return api.Fault{}
	case at == len(s):
		return api.Fault{Err: short, At: at}
	case o.zeroPre.MatchString(s[:at]):
		return api.Fault{Err: nought, At: at}
	case at > 0 && s[at-1] == '0' && s[at] >= '0' && s[at] <= '9':
		return api.Fault{Err: nought, At: at}
	}
	return api.Fault{Err: form, At: at}
}

// everyText is all short texts, and all short rows of what ranges are made of.
func everyText() []string {
	return slices.Concat(
		checks.Texts("01.x |-^", 5),
		checks.Texts("0v<>=~* |-!\t", 4),
		checks.Rows([]string{"1.2.3", "-", "0", "a", ".", "+", " ", "||", "x", "~>", "!"}, 4),
	)
}

// P8.1 and P8.7 by their words; P8.8 of what are ranges.
func TestParseEverywhere(t *testing.T) {
	o, ranges := newOracle(), 0
	for _, s := range everyText() {
		l, f := npmspec.Parse(s)
		if want := o.fault(s); f != want {
			t.Errorf("Parse(%q) = %v, not %v", s, f, want)
		}
		if npmspec.Valid(s) != (f.Err == api.OK) {
			t.Errorf("Valid(%q) = %v", s, npmspec.Valid(s))
		}
		if f.Err != api.OK {
			if len(l) > 0 {
				t.Errorf("Parse(%q) = %v beside %v", s, l, f)
			}
			continue
		}
		ranges++
		if len(l) != strings.Count(s, "||")+1 {
			t.Errorf("Parse(%q) has %d sets", s, len(l))
		}
		if again, g := npmspec.Parse(npmspec.Format(l)); g != (api.Fault{}) || !sameSets(l, again) {
			t.Errorf("%q is %v, written %q, read again %v, %v", s, l, npmspec.Format(l), again, g)
		}
	}
	if ranges < 2000 {
		t.Errorf("only %d ranges among the texts", ranges)
	}
}
