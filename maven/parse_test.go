package maven_test

import (
	"regexp"
	"slices"
	"strings"
	"testing"

	"dovetail/api"
	"dovetail/checks"
	"dovetail/maven"
)

const (
	far     = "9223372036854775807"
	farther = "18446744073709551616"
)

// tok is a token by its text, with "." or "-" ahead of it, or neither; digits are a number, all else a qualifier.
func tok(text string) api.MvnTok {
	bare := strings.TrimPrefix(strings.TrimPrefix(text, "."), "-")
	return api.MvnTok{
		Dash: strings.HasPrefix(text, "-"),
		Num:  bare != "" && '0' <= bare[0] && bare[0] <= '9',
		Text: bare,
	}
}

func toks(list ...string) []api.MvnTok {
	l := []api.MvnTok{}
	for _, text := range list {
		l = append(l, tok(text))
	}
	return l
}

// P6.1: how a text is split, and what its pieces say.
func TestTokens(t *testing.T) {
	sixty := strings.Repeat("9", 60)
	for s, want := range map[string][]api.MvnTok{
		"1": toks("1"), "12": toks("12"), "1.2": toks("1", ".2"), "1-2": toks("1", "-2"), "1.2.3-4": toks("1", ".2", ".3", "-4"), "foo": toks("foo"), "1.foo": toks("1", ".foo"), "1-foo": toks("1", "-foo"), "foo.bar-baz": toks("foo", ".bar", "-baz"),
		"1-1.foo-bar1baz-.1": toks("1", "-1", ".foo", "-bar", "-1", "-baz", "-0", ".1"),

		"1x": toks("1", "-x"), "x1": toks("x", "-1"), "1x2y3": toks("1", "-x", "-2", "-y", "-3"), "1_2": toks("1", "-_", "-2"), "1+2": toks("1", "-+", "-2"), "_1": toks("_", "-1"), "1_": toks("1", "-_"), "+1+": toks("+", "-1", "-+"), "x_y+z": toks("x_y+z"), "1x_2": toks("1", "-x_", "-2"), "_": toks("_"), "+": toks("+"), "1.x2": toks("1", ".x", "-2"), "1-x.2": toks("1", "-x", ".2"), "x-1": toks("x", "-1"), "x.1": toks("x", ".1"),
		"1..2": toks("1", ".0", ".2"), "1.-2": toks("1", "-2"), "1-.2": toks("1", "-0", ".2"), "1--2": toks("1", "-2"), "x..y": toks("x", ".y"), "x.-.1": toks("x", "-0", ".1"), "x-..1": toks("x", "-0", ".0", ".1"),
		".1": toks("0", ".1"), "-1": toks("1"), "..1": toks("0", ".0", ".1"), "--1": toks("1"), "-.1": toks("0", ".1"), ".-1": toks("1"), ".x": toks("x"), "-x": toks("x"), ".-.1": toks("0", ".1"), "-x-1": toks("x", "-1"),
		".": toks("0"), "-": toks("0"), "..": toks("0"), "--": toks("0"), ".-.": toks("0"), "-.-": toks("0"), "1.": toks("1"), "1-": toks("1"), "1..": toks("1"), "1.-": toks("1"), "x-": toks("x"), "x..": toks("x"), "x-.-": toks("x"),

		"a1": toks("alpha", "-1"), "b1": toks("beta", "-1"), "m1": toks("milestone", "-1"), "1a1": toks("1", "-alpha", "-1"), "1.a1": toks("1", ".alpha", "-1"), "1-b2": toks("1", "-beta", "-2"), "1M10": toks("1", "-milestone", "-10"), "A1": toks("alpha", "-1"), "1B2": toks("1", "-beta", "-2"), "1a0.1": toks("1", "-alpha", "-0", ".1"), "1a0": toks("1", "-alpha"), "1m00": toks("1", "-milestone"), "1a01b02m03": toks("1", "-alpha", "-1", "-beta", "-2", "-milestone", "-3"),
		"a": toks("a"), "b": toks("b"), "1m": toks("1", "-m"), "1a": toks("1", "-a"), "1a.1": toks("1", "-a", ".1"), "1b-1": toks("1", "-b", "-1"), "m.1": toks("m", ".1"), "1.a": toks("1", ".a"), "1.a.1": toks("1", ".a", ".1"), "1a-": toks("1", "-a"), "1A.1": toks("1", "-a", ".1"),
		"aa1": toks("aa", "-1"), "_a1": toks("_a", "-1"), "a_1": toks("a_", "-1"), "a+1": toks("a+", "-1"), "ab1": toks("ab", "-1"), "c1": toks("c", "-1"), "ma1": toks("ma", "-1"), "alpha1": toks("alpha", "-1"), "x1a": toks("x", "-1", "-a"),

		"1-cr": toks("1", "-rc"), "1CR2": toks("1", "-rc", "-2"), "Cr": toks("rc"), "cr.1": toks("rc", ".1"), "cR1": toks("rc", "-1"), "rc": toks("rc"), "crc": toks("crc"), "_cr": toks("_cr"), "cr_": toks("cr_"),
		"1-final": toks("1"), "1.GA": toks("1"), "1Release": toks("1"), "final": toks("0"), "GA": toks("0"), "release": toks("0"), "1-FINAL.1": toks("1", "-", ".1"), "1.ga.1": toks("1", ".", ".1"), "1releaSE.1": toks("1", "-", ".1"), "final.1": toks("", ".1"), "ga-1": toks("1"), "final1": toks("1"), "1-final2": toks("1", "-2"), "release.x": toks("x"), "finals": toks("finals"), "gaga": toks("gaga"), "release+": toks("release+"),
		"1-ALPHA": toks("1", "-alpha"), "1-SnapShot": toks("1", "-snapshot"), "FOO_Bar": toks("foo_bar"), "AZ": toks("az"),

		"007": toks("7"), "0": toks("0"), "000": toks("0"), "1.007": toks("1", ".7"), "1.00.01": toks("1", ".0", ".1"), "1-000.1": toks("1", "-0", ".1"), "100": toks("100"), "1.10": toks("1", ".10"), far: toks(far), farther + ".00" + farther: toks(farther, "."+farther), "x0" + far: toks("x", "-"+far),

		"1.0": toks("1"), "1.0.0": toks("1"), "1-0": toks("1"), "1-0.0": toks("1"), "1.0-0": toks("1"), "1.0-1": toks("1", "-1"), "1.0.0-1": toks("1", "-1"), "1.0x": toks("1", "-x"), "1.0.x": toks("1", ".x"), "1.0.0.x.0": toks("1", ".x"), "1.0.1": toks("1", ".0", ".1"), "1.0.0.1": toks("1", ".0", ".0", ".1"), "1-0.1": toks("1", "-0", ".1"), "1.0-0.1": toks("1", "-0", ".1"), "1.0.0-0.0.1": toks("1", "-0", ".0", ".1"), "1.0.final": toks("1"), "1.final.0": toks("1"), "1.0.final.1": toks("1", ".", ".1"), "1.final.0.1": toks("1", ".", ".0", ".1"), "1.final.final.1": toks("1", ".", ".1"), "1.final-1": toks("1", "-1"), "1.final.x": toks("1", ".x"), "1-final-0.1": toks("1", "-0", ".1"), "1.0.ga.0-release.0-1": toks("1", "-1"), "1.0.2.0": toks("1", ".0", ".2"), "x.0.1": toks("x", ".0", ".1"), "x.0": toks("x"),
		"0.1": toks("0", ".1"), "0-1": toks("1"), "0x": toks("x"), "0.x": toks("x"), "0.0": toks("0"), "0.0-1": toks("1"), "0-0.1": toks("0", ".1"), "0.0.1": toks("0", ".0", ".1"), "0-final.1": toks("", ".1"), "final.0": toks("0"), "final.0.1": toks("", ".0", ".1"), "0.ga-0.release": toks("0"), "00-00": toks("0"), "0-0-x": toks("x"), "0-1.0-2": toks("1", "-2"), "0-0-1": toks("1"),

		sixty + "1234": toks(sixty + "1234"), sixty + ".1.2": toks(sixty, ".1", ".2"), strings.Repeat("0", 64): toks("0"), strings.Repeat("0", 63) + "7": toks("7"), strings.Repeat("X", 64): toks(strings.Repeat("x", 64)), strings.Repeat(".", 64): toks("0"), strings.Repeat("-", 63) + "1": toks("1"), "1" + strings.Repeat("-", 63): toks("1"), strings.Repeat(".", 4) + sixty: toks("0", ".0", ".0", ".0", "."+sixty),
	} {
		if l, f := maven.Tokens(s); f != (api.Fault{}) || !slices.Equal(l, want) {
			t.Errorf("Tokens(%q) = %+v, %v, not %+v", s, l, f, want)
		}
	}
}

// P6.1: what is none, and where.
func TestTokensFaults(t *testing.T) {
	ones := strings.Repeat("1", 63)
	for s, want := range map[string]api.Fault{
		"":  {Err: api.ErrShort, At: 0},
		" ": {Err: api.ErrForm, At: 0}, " 1": {Err: api.ErrForm, At: 0}, "1 2": {Err: api.ErrForm, At: 1}, "1 ": {Err: api.ErrForm, At: 1}, "1.x ": {Err: api.ErrForm, At: 3}, "\n": {Err: api.ErrForm, At: 0}, "1.0\n": {Err: api.ErrForm, At: 3}, "\x00": {Err: api.ErrForm, At: 0}, "1\x00": {Err: api.ErrForm, At: 1}, "\xff": {Err: api.ErrForm, At: 0}, "1.\xff": {Err: api.ErrForm, At: 2}, "\xc3\xa9": {Err: api.ErrForm, At: 0}, "x\xc3\x84": {Err: api.ErrForm, At: 1}, "\xd9\xa1": {Err: api.ErrForm, At: 0}, "1\xe2\x84\xaa": {Err: api.ErrForm, At: 1},
		"1,2": {Err: api.ErrForm, At: 1}, "[1": {Err: api.ErrForm, At: 0}, "1]": {Err: api.ErrForm, At: 1}, "(1)": {Err: api.ErrForm, At: 0}, "1:2": {Err: api.ErrForm, At: 1}, "1~2": {Err: api.ErrForm, At: 1}, "^1": {Err: api.ErrForm, At: 0}, "1/2*3": {Err: api.ErrForm, At: 1}, "${x}": {Err: api.ErrForm, At: 0}, "1.x@y z": {Err: api.ErrForm, At: 3},
		ones + " ":  {Err: api.ErrForm, At: 63},
		" " + ones:  {Err: api.ErrForm, At: 0},
		ones + "11": {Err: api.ErrLong, At: 64}, ones + ". ": {Err: api.ErrLong, At: 64}, " " + ones + "1": {Err: api.ErrLong, At: 64},
		strings.Repeat("0", 65): {Err: api.ErrLong, At: 64}, strings.Repeat(" ", 65): {Err: api.ErrLong, At: 64}, strings.Repeat("1a", 5000): {Err: api.ErrLong, At: 64},
	} {
		if l, f := maven.Tokens(s); f != want || len(l) > 0 {
			t.Errorf("Tokens(%q) = %+v, %v, not %v", s, l, f, want)
		}
	}
}

// P6.1: which bytes may stand, all of them, at the head, in the middle and at the end.
func TestTokensBytes(t *testing.T) {
	takes := "0123456789ABCDEFGHIJKLMNOPQRSTUVWXYZabcdefghijklmnopqrstuvwxyz.-_+"
	for c := range 256 {
		b := string([]byte{byte(c)})
		want := api.Fault{Err: api.ErrForm}
		if strings.Contains(takes, b) {
			want = api.Fault{}
		}
		for _, place := range [][2]string{{"", ""}, {"", "1"}, {"", "x"}, {"1", "1"}, {"x", "x"}, {"1.", "-x"}, {"1.x", ""}, {"x-1", ""}, {"1.", ""}} {
			if want.Err != api.OK {
				want.At = len(place[0])
			}
			if l, f := maven.Tokens(place[0] + b + place[1]); f != want || (len(l) > 0) != (f.Err == api.OK) {
				t.Errorf("Tokens(%q) = %+v, %v", place[0]+b+place[1], l, f)
			}
		}
	}
}

var (
	digitThenWord = regexp.MustCompile(`([0-9])([a-z_+])`)
	wordThenDigit = regexp.MustCompile(`([a-z_+])([0-9])`)
	splits        = regexp.MustCompile(`[.~-]`)
	versionForm   = regexp.MustCompile(`^[0-9A-Za-z._+-]{1,64}$`)
)

// wantedSplit is the chapter's section 'The text' up to what is trimmed: turns are marked by a "~" first.
func wantedSplit(s string) []api.MvnTok {
	s = wordThenDigit.ReplaceAllString(digitThenWord.ReplaceAllString(strings.ToLower(s), "$1~$2"), "$1~$2")
	short := map[string]string{"a": "alpha", "b": "beta", "m": "milestone"}
	long := map[string]string{"cr": "rc", "final": "", "ga": "", "release": ""}
	var l []api.MvnTok
	ahead := ""
	for {
		at := splits.FindStringIndex(s)
		text, mark := s, ""
		if at != nil {
			text, mark = s[:at[0]], s[at[0]:at[1]]
		}
		one := api.MvnTok{Dash: ahead == "-" || ahead == "~", Text: text}
		if strings.Trim(text, "0123456789") == "" {
			one.Num, one.Text = true, strings.TrimLeft(text, "0")
			if one.Text == "" {
				one.Text = "0"
			}
		} else if name, ok := short[text]; ok && mark == "~" {
			one.Text = name
		} else if name, ok := long[text]; ok {
			one.Text = name
		}
		l = append(l, one)
		if mark == "" {
			return l
		}
		s, ahead = s[at[1]:], mark
	}
}

func null(t api.MvnTok) bool { return t.Num && t.Text == "0" || !t.Num && t.Text == "" }

// nullToGo is the last null that is trimmed; -1, if there is none.
func nullToGo(l []api.MvnTok) int {
	for i := len(l) - 1; i >= 0; i-- {
		if null(l[i]) && (i == len(l)-1 || l[i+1].Dash || !l[i+1].Num) {
			return i
		}
	}
	return -1
}

// wantedTokens is a version's tokens by the chapter's words; nulls go one at a time, again and again.
func wantedTokens(s string) ([]api.MvnTok, bool) {
	if !versionForm.MatchString(s) {
		return nil, false
	}
	l := wantedSplit(s)
	for at := nullToGo(l); at >= 0; at = nullToGo(l) {
		l = slices.Delete(l, at, at+1)
	}
	if len(l) == 0 {
		return toks("0"), true
	}
	l[0].Dash = false
	return l, true
}

// everyText is all short texts, and all short rows of some pieces.
func everyText() []string {
	return slices.Concat(
		checks.Texts("01aX.-_", 5), checks.Texts("0m.-", 7),
		checks.Rows([]string{"0", "12", ".", "-", "b", "final", "GA", "cr", "Snapshot", "x", "+"}, 4),
	)
}

// P6.1, P6.3, P6.9 by their words.
func TestTokensEverywhere(t *testing.T) {
	for _, s := range everyText() {
		l, f := maven.Tokens(s)
		want, ok := wantedTokens(s)
		if ok != (f == api.Fault{}) || !slices.Equal(l, want) {
			t.Fatalf("Tokens(%q) = %+v, %v, not %+v", s, l, f, want)
		}
		if !ok {
			continue
		}
		canon := maven.Canon(s)
		again, g := maven.Tokens(canon)
		if g != (api.Fault{}) || !maven.Fit(l) || !slices.Equal(l, again) || maven.Canon(canon) != canon || maven.Compare(s, canon) != 0 {
			t.Fatalf("Tokens(%q) = %+v, whose text is %q", s, l, canon)
		}
	}
}

// Rule 0.5: each answer is memory of its own.
func TestTokensAreNew(t *testing.T) {
	for _, s := range []string{"0", "", "final", "1.0.1-x", "-1"} {
		l, f := maven.Tokens(s)
		kept := slices.Clone(l)
		clear(l[:cap(l)])
		if again, g := maven.Tokens(s); f != g || !slices.Equal(again, kept) {
			t.Errorf("Tokens(%q) is then %+v", s, again)
		}
	}
}
