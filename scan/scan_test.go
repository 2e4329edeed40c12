package scan_test

import (
	"math"
	"slices"
	"strconv"
	"strings"
	"testing"

	"dovetail/api"
	"dovetail/checks"
	"dovetail/scan"
)

// members is each class written out, byte by byte.
func members() map[int]string {
	digits, lower, upper := "0123456789", "abcdefghijklmnopqrstuvwxyz", "ABCDEFGHIJKLMNOPQRSTUVWXYZ"
	return map[int]string{
		api.CsDigit:  digits,
		api.CsLower:  lower,
		api.CsUpper:  upper,
		api.CsLetter: lower + upper,
		api.CsAlnum:  lower + upper + digits,
		api.CsBlank:  " \t",
		api.CsSpace:  " \t\n\r",
	}
}

var places = []int{math.MinInt, -2, -1, 0, 1, 2, 3, 4, 5, 6, 7, math.MaxInt - 1, math.MaxInt}

// P1.1
func TestIs(t *testing.T) {
	classes := []int{math.MinInt, -1, 0, api.NumCss, api.NumCss + 1, 256 + api.CsDigit, math.MaxInt}
	for class := range members() {
		classes = append(classes, class)
	}
	for _, class := range classes {
		for c := range 256 {
			want := strings.IndexByte(members()[class], byte(c)) >= 0
			if got := scan.Is(byte(c), class); got != want {
				t.Errorf("Is(%d, %d) = %v", c, class, got)
			}
		}
	}
}

// P1.2
func TestRun(t *testing.T) {
	for _, c := range []struct {
		s         string
		at, class int
		want      int
	}{
		{"12a3", 0, api.CsDigit, 2},
		{"12a3", 1, api.CsDigit, 2},
		{"12a3", 2, api.CsDigit, 2},
		{"12a3", 3, api.CsDigit, 4},
		{"12a3", 4, api.CsDigit, 4},
		{"12a3", 5, api.CsDigit, 5},
		{"12a3", -1, api.CsDigit, -1},
		{"12a3", math.MinInt, api.CsDigit, math.MinInt},
		{"12a3", math.MaxInt, api.CsDigit, math.MaxInt},
		{"12a3", 0, api.CsAlnum, 4},
		{"12a3", 1, 0, 1},
		{"12a3", 0, api.NumCss, 0},
		{"12a3", 0, -1, 0},
		{" \t\n\rx", 0, api.CsBlank, 2},
		{" \t\n\rx", 0, api.CsSpace, 4},
		{"abC", 0, api.CsLower, 2},
		{"ABc", 0, api.CsUpper, 2},
		{"abC1", 0, api.CsLetter, 3},
		{"a\xc3\xa9", 0, api.CsLetter, 1},
		{"", 0, api.CsDigit, 0},
		{"", 1, api.CsDigit, 1},
		{"", -1, api.CsDigit, -1},
	} {
		if got := scan.Run(c.s, c.at, c.class); got != c.want {
			t.Errorf("Run(%q, %d, %d) = %d, not %d", c.s, c.at, c.class, got, c.want)
		}
	}
}

// P1.2, by its words: all of the class up to the end, and the end is not.
func TestRunEverywhere(t *testing.T) {
	for _, s := range checks.Texts("0a \n", 4) {
		for _, at := range places {
			for class := -1; class <= api.NumCss; class++ {
				want := at
				for 0 <= want && want < len(s) && scan.Is(s[want], class) {
					want++
				}
				if got := scan.Run(s, at, class); got != want {
					t.Errorf("Run(%q, %d, %d) = %d, not %d", s, at, class, got, want)
				}
			}
		}
	}
}

// P1.3
func TestTrim(t *testing.T) {
	for d, want := range map[string]string{
		"007": "7", "000": "0", "0": "0", "": "0", "7": "7", "70": "70", "0700": "700",
		"x": "x", "00x0": "x0", " 07": " 07", "-01": "-01", "0\x00": "\x00", "0\xff": "\xff",
		strings.Repeat("0", 500) + "1": "1",
	} {
		if got := scan.Trim(d); got != want {
			t.Errorf("Trim(%q) = %q, not %q", d, got, want)
		}
	}
}

// P1.4
func TestCmp(t *testing.T) {
	nines := strings.Repeat("9", 100)
	for _, c := range []struct {
		a, b string
		want int
	}{
		{"10", "9", 1}, {"9", "10", -1}, {"010", "10", 0}, {"", "0", 0}, {"", "000", 0}, {"", "", 0},
		{"", "1", -1}, {"1", "", 1}, {"0009", "10", -1}, {"12", "13", -1}, {"21", "13", 1},
		{nines, "1" + strings.Repeat("0", 100), -1}, {nines, "0" + nines, 0}, {nines, nines[1:] + "8", 1},
		{"x", "9", 1}, {"x", "10", -1}, {"0x", "x", 0}, {"\xff", "a", 1}, {"a", "\xff", -1}, {"b", "a", 1}, {"", "/", 1},
	} {
		if got := scan.Cmp(c.a, c.b); got != c.want {
			t.Errorf("Cmp(%q, %q) = %d, not %d", c.a, c.b, got, c.want)
		}
	}
}

// P1.5
func TestNext(t *testing.T) {
	for d, want := range map[string]string{
		"99": "100", "0": "1", "": "1", "000": "1", "007": "8", "009": "10", "19": "20", "199": "200", "909": "910",
		strings.Repeat("9", 80): "1" + strings.Repeat("0", 80),
		"18446744073709551615":  "18446744073709551616",
		"x":                     "1", "12x": "1", "x12": "1", "1 ": "1", "-1": "1", "1.5": "1", "\xff": "1", "9:": "1", "9/": "1",
	} {
		if got := scan.Next(d); got != want {
			t.Errorf("Next(%q) = %q, not %q", d, got, want)
		}
	}
}

// P1.6
func TestStrip(t *testing.T) {
	for _, c := range []struct {
		s, want string
		ahead   int
	}{
		{"a", "a", 0}, {" \ta b\t ", "a b", 2}, {"a  ", "a", 0}, {"  a", "a", 2},
		{"", "", 0}, {" ", "", 1}, {" \t ", "", 3},
		{"\n a \r", "\n a \r", 0}, {" \n ", "\n", 1}, {"\v a", "\v a", 0}, {" \xa0 ", "\xa0", 1},
	} {
		if got, ahead := scan.Strip(c.s); got != c.want || ahead != c.ahead {
			t.Errorf("Strip(%q) = %q, %d", c.s, got, ahead)
		}
	}
}

// P1.7
func TestLines(t *testing.T) {
	for _, c := range []struct {
		s    string
		want []api.Piece
	}{
		{"", nil},
		{"a\r\nb", []api.Piece{{Text: "a", At: 0, Line: 1}, {Text: "b", At: 3, Line: 2}}},
		{"a\nb\n", []api.Piece{{Text: "a", At: 0, Line: 1}, {Text: "b", At: 2, Line: 2}}},
		{"a", []api.Piece{{Text: "a", At: 0, Line: 1}}},
		{"\n", []api.Piece{{Text: "", At: 0, Line: 1}}},
		{"\n\nab", []api.Piece{{Text: "", At: 0, Line: 1}, {Text: "", At: 1, Line: 2}, {Text: "ab", At: 2, Line: 3}}},
		{"a\n\n", []api.Piece{{Text: "a", At: 0, Line: 1}, {Text: "", At: 2, Line: 2}}},
		{"a\r\r\n", []api.Piece{{Text: "a\r", At: 0, Line: 1}}},
		{"\ra\rb\n", []api.Piece{{Text: "\ra\rb", At: 0, Line: 1}}},
		{"\r\n", []api.Piece{{Text: "", At: 0, Line: 1}}},
		{"a\nb\r", []api.Piece{{Text: "a", At: 0, Line: 1}, {Text: "b", At: 2, Line: 2}}},
		{"a\n\r", []api.Piece{{Text: "a", At: 0, Line: 1}, {Text: "", At: 2, Line: 2}}},
		{" \n\x00\xff", []api.Piece{{Text: " ", At: 0, Line: 1}, {Text: "\x00\xff", At: 2, Line: 2}}},
	} {
		if got := scan.Lines(c.s); !slices.Equal(got, c.want) {
			t.Errorf("Lines(%q) = %v, not %v", c.s, got, c.want)
		}
	}
}

// P1.8
func TestSplit(t *testing.T) {
	for _, c := range []struct {
		s    string
		sep  byte
		want []api.Piece
	}{
		{"a,,b", ',', []api.Piece{{Text: "a"}, {At: 2}, {Text: "b", At: 3}}},
		{"", ',', []api.Piece{{}}},
		{",", ',', []api.Piece{{}, {At: 1}}},
		{"a,", ',', []api.Piece{{Text: "a"}, {At: 2}}},
		{",a", ',', []api.Piece{{}, {Text: "a", At: 1}}},
		{"a|b", ',', []api.Piece{{Text: "a|b"}}},
		{"a\r\nb", '\n', []api.Piece{{Text: "a\r"}, {Text: "b", At: 3}}},
		{"a\x00b", 0, []api.Piece{{Text: "a"}, {Text: "b", At: 2}}},
		{"\xc3\xa9", 0xa9, []api.Piece{{Text: "\xc3"}, {At: 2}}},
	} {
		if got := scan.Split(c.s, c.sep); !slices.Equal(got, c.want) {
			t.Errorf("Split(%q, %q) = %v, not %v", c.s, c.sep, got, c.want)
		}
	}
}

// P1.7, P1.8: a piece's text stands at its place.
func TestPlaces(t *testing.T) {
	for _, s := range checks.Texts("a,\n\r", 5) {
		for i, p := range scan.Lines(s) {
			if !strings.HasPrefix(s[p.At:], p.Text) || p.Line != strings.Count(s[:p.At], "\n")+1 || p.Line != i+1 {
				t.Errorf("Lines(%q)[%d] = %v", s, i, p)
			}
		}
		parts := scan.Split(s, ',')
		if len(parts) != strings.Count(s, ",")+1 {
			t.Errorf("Split(%q, ',') has %d", s, len(parts))
		}
		for i, p := range parts {
			if !strings.HasPrefix(s[p.At:], p.Text) || strings.Contains(p.Text, ",") || p.Line != 0 {
				t.Errorf("Split(%q, ',')[%d] = %v", s, i, p)
			}
		}
	}
}

// P1.9
func TestLower(t *testing.T) {
	for s, want := range map[string]string{
		"": "", "AbZz": "abzz", "ABCDEFGHIJKLMNOPQRSTUVWXYZ": "abcdefghijklmnopqrstuvwxyz",
		"@[`{09 -": "@[`{09 -", "\u00c4A": "\u00c4a", "\u212aK": "\u212ak", "\xc9\xffA\x00": "\xc9\xffa\x00",
	} {
		if got := scan.Lower(s); got != want {
			t.Errorf("Lower(%q) = %q, not %q", s, got, want)
		}
	}
}

// P1.10
func TestWord(t *testing.T) {
	for _, c := range []struct {
		s     string
		at    int
		words []string
		want  string
		ok    bool
	}{
		{"preview1", 0, []string{"pre", "preview"}, "preview", true},
		{"preview1", 0, []string{"preview", "pre"}, "preview", true},
		{"pre1", 0, []string{"pre", "preview"}, "pre", true},
		{"1pre", 1, []string{"p", "pre", "pr"}, "pre", true},
		{"1pre", 0, []string{"pre"}, "", false},
		{"Pre", 0, []string{"pre"}, "", false},
		{"pr", 0, []string{"pre"}, "", false},
		{"rc", 0, []string{"rc", "rc"}, "rc", true},
		{"rc", 0, nil, "", false},
		{"rc", 0, []string{""}, "", true},
		{"rc", 2, []string{"", "c"}, "", true},
		{"rc", 2, []string{"c"}, "", false},
		{"rc", 1, []string{"", "c"}, "c", true},
		{"rc", 1, []string{"c", ""}, "c", true},
		{"rc", 3, []string{"", "c"}, "", false},
		{"rc", -1, []string{"", "r"}, "", false},
		{"rc", math.MinInt, []string{""}, "", false},
		{"rc", math.MaxInt, []string{""}, "", false},
		{"", 0, []string{"", "a"}, "", true},
		{"", 0, []string{"a"}, "", false},
		{"", 1, []string{""}, "", false},
		{"a\xff\x00", 1, []string{"\xff", "\xff\x00"}, "\xff\x00", true},
	} {
		kept := slices.Clone(c.words)
		got, ok := scan.Word(c.s, c.at, c.words)
		if got != c.want || ok != c.ok {
			t.Errorf("Word(%q, %d, %q) = %q, %v", c.s, c.at, c.words, got, ok)
		}
		if !slices.Equal(kept, c.words) {
			t.Errorf("Word(%q, %d, ..) has changed its words to %q", c.s, c.at, c.words)
		}
	}
}

// P1.11, of digits: Cmp and Next are those of numbers.
func TestNumbers(t *testing.T) {
	digits := checks.Texts("0189", 4)
	for _, a := range digits {
		x, _ := strconv.Atoi("0" + a)
		next := scan.Next(a)
		if next != strconv.Itoa(x+1) || scan.Cmp(next, a) != 1 {
			t.Errorf("Next(%q) = %q", a, next)
		}
		for _, b := range digits {
			y, _ := strconv.Atoi("0" + b)
			got := scan.Cmp(a, b)
			if (got < 0) != (x < y) || (got > 0) != (x > y) || got < -1 || got > 1 {
				t.Errorf("Cmp(%q, %q) = %d", a, b, got)
			}
			if got < 0 && scan.Cmp(b, next) < 0 {
				t.Errorf("%q is between %q and %q", b, a, next)
			}
		}
	}
}

// P1.11, of any texts: an order, 0 just where Trim is the same.
func TestOrder(t *testing.T) {
	all := checks.Texts("09a\xff", 3)
	for _, a := range all {
		for _, b := range all {
			ab := scan.Cmp(a, b)
			if (ab == 0) != (scan.Trim(a) == scan.Trim(b)) || ab != -scan.Cmp(b, a) {
				t.Errorf("Cmp(%q, %q) = %d", a, b, ab)
			}
			for _, c := range all {
				if ab <= 0 && scan.Cmp(b, c) <= 0 && scan.Cmp(a, c) > 0 {
					t.Errorf("Cmp: %q, %q, %q do not rise", a, b, c)
				}
			}
		}
	}
}

// P1.12
func TestThereAndBack(t *testing.T) {
	for _, s := range checks.Texts("a,\n\r", 6) {
		var joined []string
		for _, p := range scan.Split(s, ',') {
			joined = append(joined, p.Text)
		}
		if got := strings.Join(joined, ","); got != s {
			t.Errorf("Split(%q, ',') comes back as %q", s, got)
		}
		if strings.Contains(s, "\r") || !strings.HasSuffix(s, "\n") {
			continue
		}
		back := ""
		for _, p := range scan.Lines(s) {
			back += p.Text + "\n"
		}
		if back != s {
			t.Errorf("Lines(%q) comes back as %q", s, back)
		}
	}
}

// Rule 0.5: answers are memory of their own.
func TestFresh(t *testing.T) {
	for _, f := range []func() []api.Piece{
		func() []api.Piece { return scan.Lines("a\nb") },
		func() []api.Piece { return scan.Split("a\nb", '\n') },
	} {
		first := f()
		first[0].Text = "changed"
		if second := f(); second[0].Text != "a" {
			t.Errorf("a second answer says %q", second[0].Text)
		}
	}
}
