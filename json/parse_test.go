package json_test

import (
	"fmt"
	"slices"
	"strings"
	"testing"

	"dovetail/api"
	"dovetail/json"
)

const (
	form  = api.ErrForm
	short = api.ErrShort
	long  = api.ErrLong
	deep  = api.ErrDeep
	twice = api.ErrTwice
	zero  = api.ErrZero
)

// notBlank is bytes with which no text goes on where a value begins, or behind one; some are blanks elsewhere.
func notBlank() []string {
	return []string{"\x00", "\x01", "\b", "\v", "\f", "\x0e", "\x1f", "\x7f", "\x80", "\x85", "\xa0", "\xff", "\u00a0", "\ufeff", "\u3000", "'", "/", "#", "\\", "_", "+", ".", "N", "a", "=", ";", "(", ")"}
}

func null(at int) api.Json  { return api.Json{Kind: api.JsNull, At: at} }
func no(at int) api.Json    { return api.Json{Kind: api.JsFalse, At: at} }
func yes(at int) api.Json   { return api.Json{Kind: api.JsTrue, At: at} }
func empty(at int) api.Json { return api.Json{Kind: api.JsList, At: at} }

func number(at int, text string) api.Json {
	return api.Json{Kind: api.JsNumber, At: at, Text: text}
}

func says(at int, text string) api.Json {
	return api.Json{Kind: api.JsString, At: at, Text: text}
}

func list(at int, kids ...api.Json) api.Json {
	return api.Json{Kind: api.JsList, At: at, Kids: kids}
}

func object(at int, keys []string, kids ...api.Json) api.Json {
	return api.Json{Kind: api.JsObject, At: at, Keys: keys, Kids: kids}
}

// equal is Same, places and all.
func equal(a, b api.Json) bool {
	return a.At == b.At && a.Kind == b.Kind && a.Text == b.Text && slices.Equal(a.Keys, b.Keys) && slices.EqualFunc(a.Kids, b.Kids, equal)
}

func isZero(j api.Json) bool {
	return j.Kind == 0 && j.At == 0 && j.Text == "" && j.Keys == nil && j.Kids == nil
}

// brief is a value in words, as far as they are few.
func brief(j api.Json) string { return fmt.Sprintf("%.200s", fmt.Sprintf("%+v", j)) }

// reads checks what texts are read as.
func reads(t *testing.T, wanted map[string]api.Json) {
	t.Helper()
	for s, want := range wanted {
		if j, f := json.Parse(s); f != (api.Fault{}) || !equal(j, want) {
			t.Errorf("Parse(%.60q) = %s, %v, not %s", s, brief(j), f, brief(want))
		}
	}
}

// faults checks where texts go wrong.
func faults(t *testing.T, wanted map[string]api.Fault) {
	t.Helper()
	for s, want := range wanted {
		if j, f := json.Parse(s); f != want || !isZero(j) {
			t.Errorf("Parse(%.60q) = %s, %v, not %v", s, brief(j), f, want)
		}
	}
}

// P14.1: the chapter's examples, and a value of each kind.
func TestValues(t *testing.T) {
	reads(t, map[string]api.Json{
		`{"a": [1, "x\u00e9"]}`: object(0, []string{"a"}, list(6, number(7, "1"), says(10, "x\xc3\xa9"))),
		"null":                  null(0), "false": no(0), "true": yes(0), "0": number(0, "0"), `""`: says(0, ""), "[]": empty(0), "{}": object(0, nil),
		" null ": null(1), "\n\tfalse": no(2), "\r\n true": yes(3), " -1.5e3 ": number(1, "-1.5e3"), ` "a b" `: says(1, "a b"), " [] ": empty(1), " { } ": object(1, nil),
		`[null,false,true,0,"",[],{}]`:               list(0, null(1), no(6), yes(12), number(17, "0"), says(19, ""), empty(22), object(25, nil)),
		`{"b":null,"a":{"b":[{"c":true}]},"":false}`: object(0, []string{"b", "a", ""}, null(5), object(14, []string{"b"}, list(19, object(20, []string{"c"}, yes(25)))), no(36)),
		"[1,1,[1],[1]]":                              list(0, number(1, "1"), number(3, "1"), list(5, number(6, "1")), list(9, number(10, "1"))),
	})
	faults(t, map[string]api.Fault{
		"01": {Err: zero, At: 1}, "[1,]": {Err: form, At: 3}, "[": {Err: short, At: 1}, `{"a":1,"a":2}`: {Err: twice, At: 7}, "[[[[[[[[[": {Err: deep, At: 8}, `"\udc00"`: {Err: form, At: 4}, "nul": {Err: short, At: 3},
	})
}

// P14.1: nothing, blanks alone, and what stands ahead of a value and behind it.
func TestNothing(t *testing.T) {
	for _, b := range []string{"", " ", "\t", "\n", "\r", "\r\n", " \t\n\r \t", strings.Repeat("\n", 30000)} {
		faults(t, map[string]api.Fault{b: {Err: short, At: len(b)}})
		for _, c := range append(notBlank(), "]", "}", ",", ":", "]1", ",1", "/* */1", "//\n1") {
			faults(t, map[string]api.Fault{b + c: {Err: form, At: len(b)}})
		}
		for s, v := range map[string]func(int) api.Json{"null": null, "false": no, "true": yes, "[]": empty} {
			reads(t, map[string]api.Json{b + s: v(len(b)), s + b: v(0), b + s + b: v(len(b))})
			for _, more := range append(notBlank(), "]", "}", ",", ":", "null", "1", `"`, "[", "{", "-", "l", "e") {
				faults(t, map[string]api.Fault{s + b + more: {Err: form, At: len(s) + len(b)}, b + s + more + b: {Err: form, At: len(b) + len(s)}})
			}
		}
	}
}

// P14.1: a text's bytes.
func TestLength(t *testing.T) {
	const most = 65536
	blanks, ones := strings.Repeat(" ", most), strings.Repeat("1", most)
	numbers := api.Json{Kind: api.JsList}
	for at := range most / 2 {
		numbers.Kids = append(numbers.Kids, number(1+2*at, "1"))
	}
	numbers.Kids = numbers.Kids[:most/2-1]
	many := "[" + strings.Repeat("1,", most/2-2) + "1 ]"
	reads(t, map[string]api.Json{
		ones: number(0, ones), blanks[1:] + "1": number(most-1, "1"), "1" + blanks[1:]: number(0, "1"), blanks[4:] + "null": null(most - 4), `"` + ones[2:] + `"`: says(0, ones[2:]), "[" + blanks[2:] + "]": empty(0), "{" + blanks[2:] + "}": object(0, nil), many: numbers,
		`{"` + ones[6:] + `":1}`: object(0, []string{ones[6:]}, number(most-2, "1")),
	})
	tooLong := api.Fault{Err: long, At: most}
	for _, s := range []string{
		ones + "1", blanks + "1", blanks + " ", "1" + blanks, "null" + blanks, `"` + ones[1:] + `"`, "[" + blanks[1:] + "]", many + " ", blanks + blanks + "1",
		// What is wrong ahead is not looked for.
		"01" + blanks, "!" + blanks, "1 1" + blanks, "[[[[[[[[[" + blanks, `{"a":1,"a":2}` + blanks, "[" + ones, blanks + "!", `"` + ones + ones, "\x00" + ones,
	} {
		faults(t, map[string]api.Fault{s: tooLong})
	}
	faults(t, map[string]api.Fault{
		blanks: {Err: short, At: most}, "[" + blanks[1:]: {Err: short, At: most}, `"` + ones[1:]: {Err: short, At: most}, ones[1:] + "-": {Err: form, At: most - 1}, ones[1:] + ".": {Err: short, At: most}, "0" + ones[1:]: {Err: zero, At: 1}, "!" + blanks[1:]: {Err: form, At: 0}, blanks[1:] + "]": {Err: form, At: most - 1},
	})
}

// P14.1: the words, cut off at each byte, and with a wrong byte at each.
func TestWords(t *testing.T) {
	for _, word := range []string{"null", "false", "true"} {
		for end := 1; end < len(word); end++ {
			faults(t, map[string]api.Fault{word[:end]: {Err: short, At: end}, "[" + word[:end]: {Err: short, At: end + 1}, "[1, " + word[:end]: {Err: short, At: end + 4}})
			for c := range 256 {
				if byte(c) != word[end] {
					s := word[:end] + string([]byte{byte(c)})
					faults(t, map[string]api.Fault{s: {Err: form, At: end}, s + word[end:]: {Err: form, At: end}, `{"a":` + s: {Err: form, At: 5 + end}})
				}
			}
		}
		for _, s := range []string{strings.ToUpper(word), strings.ToUpper(word[:1]) + word[1:]} {
			faults(t, map[string]api.Fault{s: {Err: form, At: 0}})
		}
		faults(t, map[string]api.Fault{word + word: {Err: form, At: len(word)}, word + "1": {Err: form, At: len(word)}, "[" + word + " " + word + "]": {Err: form, At: len(word) + 2}, word[:2] + " " + word[2:]: {Err: form, At: 2}})
	}
}

// P14.1: numbers.
func TestNumbers(t *testing.T) {
	for _, s := range []string{
		"0", "-0", "1", "-1", "9", "10", "100", "-9007199254740993", "1234567890", strings.Repeat("98765432101", 100), "0.0", "-0.0", "0.5", "1.0", "1.000", "1.01", "12.34", "0.00", "1.9876543210",
		"0e0", "0E0", "-0e-0", "1e5", "1E5", "1e+5", "1e-5", "1E+5", "1E-5", "1e05", "1e00", "1e+00", "1e-007", "0e1234567890", "1.5e3", "-1.5E-3", "0.0e0", "0.1e1", "10.01e+10", "1e999999999999",
	} {
		reads(t, map[string]api.Json{s: number(0, s), " " + s + " ": number(1, s), "[" + s + "]": list(0, number(1, s)), "[" + s + "," + s + "]": list(0, number(1, s), number(2+len(s), s)), `{"":` + s + "}": object(0, []string{""}, number(4, s))})
		// At the text's end, and with other bytes behind.
		faults(t, map[string]api.Fault{"[" + s: {Err: short, At: len(s) + 1}, "[" + s + "}": {Err: form, At: len(s) + 1}})
		for _, more := range append(slices.DeleteFunc(notBlank(), func(c string) bool { return c == "." }), "-", "+", "f", "x", "n", `"`, "[", "{", "]", "}", ",", ":", " 1", " .", " e1", "\t-") {
			at := len(s) + len(more) - len(strings.TrimLeft(more, " \t"))
			faults(t, map[string]api.Fault{s + more: {Err: form, At: at}})
		}
	}
	faults(t, map[string]api.Fault{
		"-": {Err: short, At: 1}, "-x": {Err: form, At: 1}, "--1": {Err: form, At: 1}, "-+1": {Err: form, At: 1}, "- 1": {Err: form, At: 1}, "-.5": {Err: form, At: 1}, "-e1": {Err: form, At: 1}, "[-]": {Err: form, At: 2}, "-null": {Err: form, At: 1}, "-\n": {Err: form, At: 1},
		"+": {Err: form, At: 0}, "+1": {Err: form, At: 0}, "[+1]": {Err: form, At: 1}, ".": {Err: form, At: 0}, ".5": {Err: form, At: 0}, "e1": {Err: form, At: 0}, "E1": {Err: form, At: 0}, "Infinity": {Err: form, At: 0}, "NaN": {Err: form, At: 0}, "-Infinity": {Err: form, At: 1}, "nan": {Err: form, At: 1},
		"00": {Err: zero, At: 1}, "01": {Err: zero, At: 1}, "09": {Err: zero, At: 1}, "-00": {Err: zero, At: 2}, "-01": {Err: zero, At: 2}, "-09": {Err: zero, At: 2}, "000": {Err: zero, At: 1}, "01.5": {Err: zero, At: 1}, "00e1": {Err: zero, At: 1}, "[00": {Err: zero, At: 2}, " -012": {Err: zero, At: 3}, `{"a":-0`: {Err: short, At: 7}, "[0,-05]": {Err: zero, At: 5},
		"0x10": {Err: form, At: 1}, "0 0": {Err: form, At: 2}, "0-": {Err: form, At: 1}, "0+0": {Err: form, At: 1}, "0/1": {Err: form, At: 1}, "0:": {Err: form, At: 1}, "1/": {Err: form, At: 1}, "1:": {Err: form, At: 1}, "-0-": {Err: form, At: 2},
		"1.": {Err: short, At: 2}, "0.": {Err: short, At: 2}, "-0.": {Err: short, At: 3}, "1.x": {Err: form, At: 2}, "1..": {Err: form, At: 2}, "1.e5": {Err: form, At: 2}, "1.-5": {Err: form, At: 2}, "1. 5": {Err: form, At: 2}, "[1.]": {Err: form, At: 3}, "1.5.5": {Err: form, At: 3}, "1./": {Err: form, At: 2}, "1.:": {Err: form, At: 2},
		"1e": {Err: short, At: 2}, "1E": {Err: short, At: 2}, "0e": {Err: short, At: 2}, "1.5e": {Err: short, At: 4}, "1e+": {Err: short, At: 3}, "1e-": {Err: short, At: 3}, "1E+": {Err: short, At: 3}, "1ex": {Err: form, At: 2}, "1ee1": {Err: form, At: 2}, "1e.5": {Err: form, At: 2}, "1e+-1": {Err: form, At: 3}, "1e--1": {Err: form, At: 3}, "1e+x": {Err: form, At: 3}, "1e 5": {Err: form, At: 2}, "1e+ 5": {Err: form, At: 3}, "[1e]": {Err: form, At: 3}, "[1e-]": {Err: form, At: 4}, "1e5e5": {Err: form, At: 3}, "1e5.5": {Err: form, At: 3}, "1e5+": {Err: form, At: 3}, "1e:": {Err: form, At: 2}, "1e-/": {Err: form, At: 3},
		"1_000": {Err: form, At: 1}, "1,000": {Err: form, At: 1}, "1f": {Err: form, At: 1}, "\u0661": {Err: form, At: 0}, "1\u0661": {Err: form, At: 1},
	})
}
