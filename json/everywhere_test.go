package json_test

import (
	stdjson "encoding/json"
	"math/rand"
	"slices"
	"strings"
	"testing"
	"unicode/utf8"

	"dovetail/api"
	"dovetail/checks"
	"dovetail/json"
)

// grammar is the chapter's section 'The text' as parts, but for keys twice and for how deep a text may nest.
func grammar() checks.Part {
	byteOf, literal, row, oneOf := checks.ByteOf, checks.Literal, checks.Row, checks.OneOf
	some, perhaps, later := checks.Some, checks.Perhaps, checks.Later
	blanks := perhaps(some(byteOf(" \t\n\r")))
	digit, hex := byteOf("0123456789"), byteOf("0123456789abcdefABCDEF")
	fraction := row(byteOf("."), some(digit))
	exponent := row(byteOf("eE"), perhaps(byteOf("+-")), some(digit))
	number := row(perhaps(byteOf("-")), oneOf(byteOf("0"), row(byteOf("123456789"), perhaps(some(digit)))), perhaps(fraction), perhaps(exponent))
	plain := byteOf(checks.Bytes(32, 255, `"\`))
	alone := oneOf(row(byteOf("0123456789abcefABCEF"), hex, hex, hex), row(byteOf("dD"), byteOf("01234567"), hex, hex))
	pair := row(byteOf("dD"), byteOf("89abAB"), hex, hex, literal(`\u`), byteOf("dD"), byteOf("cdefCDEF"), hex, hex)
	escape := row(byteOf(`\`), oneOf(byteOf(`"\/bfnrt`), row(byteOf("u"), oneOf(alone, pair))))
	str := row(byteOf(`"`), perhaps(some(oneOf(plain, escape))), byteOf(`"`))
	var value checks.Part
	listed := func(item checks.Part) checks.Part {
		return perhaps(row(item, blanks, perhaps(some(row(byteOf(","), blanks, item, blanks)))))
	}
	list := row(byteOf("["), blanks, listed(later(&value)), byteOf("]"))
	object := row(byteOf("{"), blanks, listed(row(str, blanks, byteOf(":"), blanks, later(&value))), byteOf("}"))
	value = oneOf(literal("null"), literal("false"), literal("true"), number, str, list, object)
	return row(blanks, value, blanks)
}

// stringEnd is the place behind the string that begins at a place.
func stringEnd(s string, start int) int {
	at := start + 1
	for s[at] != '"' {
		if s[at] == '\\' {
			at++
		}
		at++
	}
	return at + 1
}

// early is the first fault ahead of a place up to which a text is well formed: a key twice, or too many brackets.
func early(s string, wrong int) (api.Fault, bool) {
	type open struct {
		bracket byte
		keys    []string
	}
	var all []open
	last := byte(0)
	for at := 0; at < wrong; at++ {
		switch c := s[at]; c {
		case ' ', '\t', '\n', '\r':
			continue
		case '[', '{':
			if len(all) == 8 {
				return api.Fault{Err: deep, At: at}, true
			}
			all = append(all, open{bracket: c})
		case ']', '}':
			all = all[:len(all)-1]
		case '"':
			if !strings.Contains(s[at+1:wrong], `"`) {
				return api.Fault{}, false
			}
			// The text's own end stands in for a string's that does not end.
			end := stringEnd(s[:wrong]+`""`, at)
			if end > wrong {
				return api.Fault{}, false
			}
			if len(all) > 0 && all[len(all)-1].bracket == '{' && (last == '{' || last == ',') {
				var said string
				if err := stdjson.Unmarshal([]byte(s[at:end]), &said); err != nil {
					panic(err)
				}
				keys := &all[len(all)-1].keys
				if slices.Contains(*keys, said) {
					return api.Fault{Err: twice, At: at}, true
				}
				*keys = append(*keys, said)
			}
			at = end - 1
		}
		last = s[at]
	}
	return api.Fault{}, false
}

// fault is what is wrong with a text, by the chapter's list of faults; its length is left to another test.
func fault(g checks.Part, s string) api.Fault {
	at := g.Wrong(s)
	if f, ok := early(s, at); ok {
		return f
	}
	switch {
	case g.Whole(s):
		return api.Fault{}
	case at == len(s):
		return api.Fault{Err: short, At: at}
	case '0' <= s[at] && s[at] <= '9' && strings.HasSuffix(s[:at], "0") && g.GoesOn(s[:at]+"."):
		// A number stands ahead that no digit goes on.
		return api.Fault{Err: zero, At: at}
	}
	return api.Fault{Err: form, At: at}
}

// decoded is what the library reads a text as, with places.
func decoded(t *testing.T, s string) api.Json {
	d := stdjson.NewDecoder(strings.NewReader(s))
	d.UseNumber()
	next := func() (stdjson.Token, int) {
		at := int(d.InputOffset())
		for at < len(s) && strings.IndexByte(" \t\n\r,:", s[at]) >= 0 {
			at++
		}
		token, err := d.Token()
		if err != nil {
			t.Fatalf("%q is decoded: %v", s, err)
		}
		return token, at
	}
	var value func() api.Json
	value = func() api.Json {
		token, at := next()
		switch token := token.(type) {
		case bool:
			if token {
				return yes(at)
			}
			return no(at)
		case string:
			return says(at, token)
		case stdjson.Number:
			return number(at, token.String())
		case stdjson.Delim:
			j := empty(at)
			if token == '{' {
				j = object(at, nil)
			}
			for d.More() {
				if token == '{' {
					key, _ := next()
					j.Keys = append(j.Keys, key.(string))
				}
				j.Kids = append(j.Kids, value())
			}
			next()
			return j
		}
		return null(at)
	}
	return value()
}

// samples is texts with all parts.
func samples() []string {
	return []string{
		`{"a": [1, "x\u00e9"]}`,
		`[null,true , false]`,
		"\t[-10.25E+3,0,-0e-9 ]",
		`{"":{"\/":""},"k":[{}]} `,
		`"\ud83d\uDe00\"\\\n z"`,
		`[[[[[[[{"a":1 , "b":2}]]]]]]]`,
		`{"a":1,"b":{"a":1},"c":0.0}`,
	}
}

// everyText is all short rows of what texts are made of, behind some beginnings, and samples with each byte another one.
func everyText() []string {
	l := slices.Concat(
		checks.Rows([]string{"[", "]", "{", "}", ",", ":", `"a"`, "1", " "}, 4),
		checks.Rows([]string{"-", "0", "1", ".", "e", "E", "+", " ", ","}, 5),
		checks.Rows([]string{"n", "u", "l", "null", "true", "false", "[", ",", "]"}, 4),
	)
	for _, r := range checks.Rows([]string{`\`, `"`, "u", "d", "8", "c", "0", "n"}, 4) {
		for _, ahead := range []string{`"`, `"\u`, `"\uD`, `"\u0`, `"\ud800`, `"\uDBff\`, `"\uD99a\u`, `"\udaAA\udc`, `{"`} {
			l = append(l, ahead+r)
		}
	}
	for _, r := range checks.Rows([]string{`"a"`, `"\u0061"`, `"b"`, ":", "1", ",", "{", "}", "["}, 4) {
		l = append(l, `{"a":1,`+r, `{"b":{`+r, `[{"a":`+r)
	}
	for _, r := range checks.Rows([]string{"[", "]", "{", "}", ",", `"a":`, "1", " "}, 4) {
		l = append(l, `[[[[[[`+r, `{"a":[[[[[[`+r, `[{"a":[[[{"a":[{`+r, "[[[[[[[["+r)
	}
	for _, s := range samples() {
		l = append(l, checks.Edited(s, "a0\"\\-: \t\n,[]{}.eE+u/dbA18\x00\x1f\x7f\xff")...)
	}
	return l
}

// P14.1, by its words.
func TestParseEverywhere(t *testing.T) {
	g, kinds := grammar(), map[api.Errno]int{}
	for _, s := range everyText() {
		j, f := json.Parse(s)
		if want := fault(g, s); f != want {
			t.Errorf("Parse(%q) = %+v, %v, not %v", s, j, f, want)
		}
		kinds[f.Err]++
		if f.Err != api.OK {
			if !isZero(j) {
				t.Errorf("Parse(%q) = %+v, %v", s, j, f)
			}
			continue
		}
		if !json.Fit(j) {
			t.Errorf("%q is read as %+v, which is not fit", s, j)
		}
		// The library reads what is no UTF-8 as another character.
		if utf8.ValidString(s) && !equal(j, decoded(t, s)) {
			t.Errorf("%q is read as %+v, not %+v", s, j, decoded(t, s))
		}
	}
	for err, least := range map[api.Errno]int{api.OK: 3000, form: 3000, short: 3000, zero: 1000, twice: 100, deep: 100} {
		if kinds[err] < least {
			t.Errorf("only %d texts of the kind %d", kinds[err], err)
		}
	}
}

// P14.1: all rows of bytes, by a fixed source: of any bytes, and of those of which texts are made.
func TestAnyBytes(t *testing.T) {
	source, g := rand.New(rand.NewSource(14)), grammar()
	const likely = "[[{{]}},,::\"\"\"\\u0019-.eEab \tnulltruefalse"
	for range 20000 {
		b := make([]byte, source.Intn(24))
		for i := range b {
			b[i] = byte(source.Intn(256))
			if source.Intn(10) > 0 {
				b[i] = likely[source.Intn(len(likely))]
			}
		}
		s := string(b)
		if j, f := json.Parse(s); f != fault(g, s) || f.Err != api.OK && !isZero(j) {
			t.Fatalf("Parse(%q) = %+v, %v, not %v", s, j, f, fault(g, s))
		}
	}
}
