package json_test

import (
	"fmt"
	"slices"
	"strings"
	"testing"
	"unicode/utf16"

	"dovetail/api"
	"dovetail/json"
)

// P14.1: each byte as it is.
func TestBytes(t *testing.T) {
	for c := range 256 {
		s := string([]byte{byte(c)})
		switch {
		case c < 32:
			faults(t, map[string]api.Fault{`"` + s: {Err: form, At: 1}, `"` + s + `"`: {Err: form, At: 1}, `"abc` + s + `"`: {Err: form, At: 4}, `{"` + s + `":1}`: {Err: form, At: 2}})
		case c == '"':
			reads(t, map[string]api.Json{`"` + s: says(0, ""), `"a` + s: says(0, "a")})
		case c == '\\':
			faults(t, map[string]api.Fault{`"` + s: {Err: short, At: 2}, `"` + s + `"`: {Err: short, At: 3}})
		default:
			reads(t, map[string]api.Json{`"` + s + `"`: says(0, s), `"a` + s + s + `b"`: says(0, "a"+s+s+"b"), `{"` + s + `":1}`: object(0, []string{s}, number(5, "1"))})
			faults(t, map[string]api.Fault{`"` + s: {Err: short, At: 2}, `"` + s + "\n": {Err: form, At: 2}})
		}
	}
	all := "\x7f\x80\xff\xc3\xa9\xed\xa0\x80\xf4\x90\x80\x80\u2028\ufeff/ '`"
	reads(t, map[string]api.Json{
		`"` + all + `"`: says(0, all), `" "`: says(0, " "), `"[{,:}]"`: says(0, "[{,:}]"), `"// null 01 "`: says(0, "// null 01 "), `["","a"]`: list(0, says(1, ""), says(4, "a")), "\t\"\" ": says(1, ""),
	})
	faults(t, map[string]api.Fault{
		`"`: {Err: short, At: 1}, ` "`: {Err: short, At: 2}, `"abc`: {Err: short, At: 4}, `"a"b"`: {Err: form, At: 3}, `""""`: {Err: form, At: 2}, `"a" "b"`: {Err: form, At: 4}, "'a'": {Err: form, At: 0}, `'a"`: {Err: form, At: 0}, "\"a\nb\"": {Err: form, At: 2}, `["a]`: {Err: short, At: 4}, `{"a: 1}`: {Err: short, At: 7}, "\"\t\"": {Err: form, At: 1},
	})
}

// P14.1: what stands behind a \.
func TestEscapes(t *testing.T) {
	meant := map[byte]string{'"': "\"", '\\': "\\", '/': "/", 'b': "\x08", 'f': "\x0c", 'n': "\x0a", 'r': "\x0d", 't': "\x09"}
	for c := range 256 {
		s := `\` + string([]byte{byte(c)})
		said, ok := meant[byte(c)]
		switch {
		case ok:
			reads(t, map[string]api.Json{`"` + s + `"`: says(0, said), `"a` + s + `b` + s + `"`: says(0, "a"+said+"b"+said), `"` + s + s + `"`: says(0, said+said), `{"` + s + `":1}`: object(0, []string{said}, number(6, "1"))})
			faults(t, map[string]api.Fault{`"` + s: {Err: short, At: 3}, `"` + s + "\x1f": {Err: form, At: 3}})
		case c == 'u':
			faults(t, map[string]api.Fault{`"` + s: {Err: short, At: 3}, `"` + s + `"`: {Err: form, At: 3}})
		default:
			faults(t, map[string]api.Fault{`"` + s: {Err: form, At: 2}, `"` + s + `"`: {Err: form, At: 2}, `"ab` + s + `0000"`: {Err: form, At: 4}, `{"` + s + `":1}`: {Err: form, At: 3}})
		}
	}
	reads(t, map[string]api.Json{`"\\u0041"`: says(0, `\u0041`), `"\\\\"`: says(0, `\\`), `"\\\""`: says(0, `\"`), `"\/\u002f/"`: says(0, "///"), `"\"\u0022"`: says(0, `""`)})
	faults(t, map[string]api.Fault{`"\`: {Err: short, At: 2}, `"\\\`: {Err: short, At: 4}, `"\\\"`: {Err: short, At: 5}, `"\ n"`: {Err: form, At: 2}, `"\x41"`: {Err: form, At: 2}, `"\N"`: {Err: form, At: 2}, `"\U0041"`: {Err: form, At: 2}, `"\0"`: {Err: form, At: 2}, "\"\\\n\"": {Err: form, At: 2}, `\n`: {Err: form, At: 0}})
}

// P14.1: numbers behind \u, all of them, by the library's own UTF-16.
func TestNumbered(t *testing.T) {
	for n := range 0x10000 {
		for _, digits := range []string{"%04x", "%04X"} {
			s := `"\u` + fmt.Sprintf(digits, n) + `"`
			j, f := json.Parse(s)
			switch {
			case n < 0xd800 || n > 0xdfff:
				if f != (api.Fault{}) || !equal(j, says(0, string(rune(n)))) {
					t.Fatalf("Parse(%q) = %+v, %v", s, j, f)
				}
			case n < 0xdc00 && f != (api.Fault{Err: form, At: 7}) || n >= 0xdc00 && f != (api.Fault{Err: form, At: 4}) || !isZero(j):
				t.Fatalf("Parse(%q) = %+v, %v", s, j, f)
			}
		}
	}
	for n := 0x10000; n < 0x110000; n++ {
		// All ends and beginnings, and some between.
		if low := n % 0x400; low > 1 && low < 0x3fe && n%97 > 0 {
			continue
		}
		high, low := utf16.EncodeRune(rune(n))
		for _, digits := range []string{`"\u%04x\u%04x"`, `"\u%04X\u%04x"`} {
			s := fmt.Sprintf(digits, high, low)
			if j, f := json.Parse(s); f != (api.Fault{}) || !equal(j, says(0, string(rune(n)))) {
				t.Fatalf("Parse(%q) = %+v, %v", s, j, f)
			}
		}
	}
	reads(t, map[string]api.Json{
		`"\u0000"`: says(0, "\x00"), `"\u001f"`: says(0, "\x1f"), `"\u007f"`: says(0, "\x7f"), `"\u0080"`: says(0, "\xc2\x80"), `"\u07ff"`: says(0, "\xdf\xbf"), `"\u0800"`: says(0, "\xe0\xa0\x80"), `"\uffff"`: says(0, "\xef\xbf\xbf"), `"\ud7ff"`: says(0, "\xed\x9f\xbf"), `"\ue000"`: says(0, "\xee\x80\x80"), `"\uD7fF"`: says(0, "\xed\x9f\xbf"), `"\ud800\udc00"`: says(0, "\xf0\x90\x80\x80"), `"\udbff\udfff"`: says(0, "\xf4\x8f\xbf\xbf"), `"\uDBfF\uDfFf"`: says(0, "\xf4\x8f\xbf\xbf"), `"\uD83d\uDE00"`: says(0, "\xf0\x9f\x98\x80"),
		`"\ufffd"`: says(0, "\xef\xbf\xbd"), `"\u00e9\u00E9"`: says(0, "éé"), `"a\u0062c"`: says(0, "abc"), `"\u00410"`: says(0, "A0"), `"\u00AAaA"`: says(0, "\u00aaaA"), `"\ud800\udc00\ud800\udc00"`: says(0, "\U00010000\U00010000"), `"\u005c\u0022"`: says(0, `\"`), `"\u005cu0041"`: says(0, `\u0041`), `"\ud7ff\udbff\udc00"`: says(0, "\ud7ff\U0010fc00"),
	})
}

// P14.1: too few digits, and what are none.
func TestDigitsOfNumbered(t *testing.T) {
	for _, digits := range []string{"0000", "12aF", "d7ff", "D000", "e123", "ffff", "d83d", "DBFF"} {
		for end := range 4 {
			s := `"\u` + digits[:end]
			at := len(s)
			faults(t, map[string]api.Fault{s: {Err: short, At: at}, "[" + s: {Err: short, At: at + 1}})
			for c := range 256 {
				if b := string([]byte{byte(c)}); !strings.Contains("0123456789abcdefABCDEF", b) {
					faults(t, map[string]api.Fault{s + b: {Err: form, At: at}, s + b + digits[end:] + `"`: {Err: form, At: at}})
				}
			}
		}
	}
	faults(t, map[string]api.Fault{`"\u00g0"`: {Err: form, At: 5}, `"\u-001"`: {Err: form, At: 3}, `"\u+041"`: {Err: form, At: 3}, `"\u 041"`: {Err: form, At: 3}, `"\u{41}"`: {Err: form, At: 3}, `"\u41"`: {Err: form, At: 5}, `"\u0x41"`: {Err: form, At: 4}, `"\u00_1"`: {Err: form, At: 5}, `"\u004G"`: {Err: form, At: 6}})
}

// P14.1: halves of one number, alone, in pairs, in the wrong order, with something else behind.
func TestHalves(t *testing.T) {
	for _, first := range []string{"d800", "D800", "d8ff", "daab", "dbff", "DBFF"} {
		s := `"\u` + first
		for _, second := range []string{"dc00", "DC00", "ddab", "Def0", "dfff", "DFFF"} {
			behind := `\u` + second
			for end := range behind {
				cut := s + behind[:end]
				faults(t, map[string]api.Fault{cut: {Err: short, At: len(cut)}, cut + "\n": {Err: form, At: len(cut)}, cut + `"`: {Err: form, At: len(cut)}, cut + "!" + behind[end:] + `"`: {Err: form, At: len(cut)}})
			}
			if j, f := json.Parse(s + behind + `"`); f != (api.Fault{}) || j.Kind != api.JsString || len(j.Text) != 4 {
				t.Errorf("Parse(%q) = %+v, %v", s+behind+`"`, j, f)
			}
			// A pair is whole: another half behind it stands alone.
			faults(t, map[string]api.Fault{s + behind + behind + `"`: {Err: form, At: 16}, s + behind + s[1:] + `"`: {Err: form, At: 19}})
		}
		for behind, at := range map[string]int{
			`"`: 0, "a": 0, " ": 0, "u": 0, "\xed": 0, "é": 0, `\"`: 1, `\\`: 1, `\n`: 1, `\U`: 1, `\d`: 1, `\u"`: 2, `\u0041`: 2, `\ue000`: 2, `\uc000`: 2, `\uffff`: 2, `\ud7ff`: 3, `\ud000`: 3, `\ud800`: 3, `\uD8ff`: 3, `\udbff`: 3, `\udBFF`: 3, `\ud"`: 3, `\ud9`: 3, `\udA`: 3, `\ud!`: 3, `\udc"`: 4, `\udcg0`: 4, `\udc0"`: 5, `\udc0z`: 5, ` \udc00`: 0,
		} {
			faults(t, map[string]api.Fault{s + behind: {Err: form, At: 7 + at}, s + behind + `"`: {Err: form, At: 7 + at}})
		}
	}
	for _, second := range []string{"dc00", "dC00", "DC00", "dd12", "DE12", "dfff", "DFFF"} {
		for _, behind := range []string{"", `"`, `\ud800"`, `\udc00"`, "x"} {
			faults(t, map[string]api.Fault{`"\u` + second + behind: {Err: form, At: 4}, `"a\u` + second[:2] + behind: {Err: form, At: 5}, `{"\u` + second + behind: {Err: form, At: 5}})
		}
	}
	reads(t, map[string]api.Json{`{"\ud83d\ude00":"\ud83d\ude00"}`: object(0, []string{"\U0001f600"}, says(16, "\U0001f600"))})
}

// P14.4 and P14.9: what is quoted.
func TestQuote(t *testing.T) {
	for s, want := range map[string]string{"": `""`, "a": `"a"`, `"`: `"\""`, `\`: `"\\"`, `\"`: `"\\\""`, "/": `"/"`, "\x00": `"\u0000"`, "\b\t\n\f\r": `"\u0008\u0009\u000a\u000c\u000d"`, "\x0f\x10\x1a\x1f": `"\u000f\u0010\u001a\u001f"`, "\x7f": "\"\x7f\"", "é\u2028": "\"é\u2028\"", "\x80\xff": "\"\x80\xff\"", "<&>'": `"<&>'"`, `\u0041`: `"\\u0041"`, "a\"b\\c\nd": `"a\"b\\c\u000ad"`, "\ufffd": "\"\ufffd\""} {
		if got := json.Quote(s); got != want {
			t.Errorf("Quote(%q) = %q, not %q", s, got, want)
		}
	}
	var all []byte
	for c := range 256 {
		all = append(all, byte(c))
		s, want := string([]byte{byte(c)}), string([]byte{byte(c)})
		switch {
		case c < 32:
			want = fmt.Sprintf(`\u%04x`, c)
		case c == '"' || c == '\\':
			want = `\` + s
		}
		if got := json.Quote(s); got != `"`+want+`"` {
			t.Errorf("Quote(%q) = %q", s, got)
		}
		if got := json.Quote("a" + s + s); got != `"a`+want+want+`"` {
			t.Errorf("Quote of it twice: %q", got)
		}
	}
	reversed := slices.Clone(all)
	slices.Reverse(reversed)
	for _, s := range []string{string(all), string(reversed), strings.Repeat(string(all), 40)} {
		reads(t, map[string]api.Json{json.Quote(s): says(0, s)})
	}
	// It is no shorter than what it says, which may be longer than a text.
	if s := strings.Repeat("x", 1<<17); json.Quote(s) != `"`+s+`"` {
		t.Error("Quote of many bytes")
	}
}
