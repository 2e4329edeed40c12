package json_test

import (
	"slices"
	"strings"
	"testing"

	"dovetail/api"
	"dovetail/json"
)

// P14.1: lists: empty, one, many, a "," too many or too few, the other closing bracket.
func TestLists(t *testing.T) {
	var many []api.Json
	for i := range 1000 {
		many = append(many, number(1+2*i, "7"))
	}
	reads(t, map[string]api.Json{
		"[]": empty(0), "[ ]": empty(0), "[\t\n\r ]": empty(0), "[1]": list(0, number(1, "1")), "[ 1 ]": list(0, number(2, "1")), "[1,2]": list(0, number(1, "1"), number(3, "2")), "[[]]": list(0, empty(1)), "[[],[]]": list(0, empty(1), empty(4)), "[{}]": list(0, object(1, nil)), "[null,null]": list(0, null(1), null(6)), `["a","a"]`: list(0, says(1, "a"), says(5, "a")), `[",","]"]`: list(0, says(1, ","), says(5, "]")),
		"[" + strings.Repeat("7,", 999) + "7]": list(0, many...),
	})
	faults(t, map[string]api.Fault{
		"[": {Err: short, At: 1}, "[ ": {Err: short, At: 2}, "[1": {Err: short, At: 2}, "[1 ": {Err: short, At: 3}, "[1,": {Err: short, At: 3}, "[1, ": {Err: short, At: 4}, "[1,2": {Err: short, At: 4}, "[[]": {Err: short, At: 3}, "[[": {Err: short, At: 2}, "[[1]": {Err: short, At: 4}, `["a"`: {Err: short, At: 4}, "[nul": {Err: short, At: 4},
		"[,": {Err: form, At: 1}, "[,]": {Err: form, At: 1}, "[ ,1]": {Err: form, At: 2}, "[1,]": {Err: form, At: 3}, "[1 , ]": {Err: form, At: 5}, "[1,,2]": {Err: form, At: 3}, "[1,2,]": {Err: form, At: 5}, "[,1]": {Err: form, At: 1}, "[,,": {Err: form, At: 1},
		"[1 2]": {Err: form, At: 3}, "[1[2]]": {Err: form, At: 2}, `["a""b"]`: {Err: form, At: 4}, "[nullnull]": {Err: form, At: 5}, "[[][]]": {Err: form, At: 3}, "[1:2]": {Err: form, At: 2}, `["a":1]`: {Err: form, At: 4}, "[:]": {Err: form, At: 1}, "[1;2]": {Err: form, At: 2},
		"[}": {Err: form, At: 1}, "[1}": {Err: form, At: 2}, "[1,}": {Err: form, At: 3}, "[[]}": {Err: form, At: 3}, "[[}": {Err: form, At: 2}, "[{]": {Err: form, At: 2}, "[1)": {Err: form, At: 2}, "]": {Err: form, At: 0}, "[]]": {Err: form, At: 2}, "[][]": {Err: form, At: 2}, "[],": {Err: form, At: 2}, "[1]2": {Err: form, At: 3}, "[01]": {Err: zero, At: 2}, "[1,-02": {Err: zero, At: 5},
	})
}

// P14.1: objects: empty, one, many, a "," or a ":" too many or too few, a key that is no string.
func TestObjects(t *testing.T) {
	one := object(0, []string{"a"}, number(5, "1"))
	reads(t, map[string]api.Json{
		"{}": object(0, nil), "{ }": object(0, nil), "{\t\n\r }": object(0, nil), `{"a":1}`: one, `{"":1}`: object(0, []string{""}, number(4, "1")), `{ "a" : 1 }`: object(0, []string{"a"}, number(8, "1")), `{"b":1,"a":2}`: object(0, []string{"b", "a"}, number(5, "1"), number(11, "2")), `{"a":{}}`: object(0, []string{"a"}, object(5, nil)), `{"a":[]}`: object(0, []string{"a"}, empty(5)), `{"a":"a"}`: object(0, []string{"a"}, says(5, "a")), `{":":",","}":"{"}`: object(0, []string{":", "}"}, says(5, ","), says(13, "{")), `{"null":null}`: object(0, []string{"null"}, null(8)), `{"\n":1}`: object(0, []string{"\n"}, number(6, "1")), `{"` + "\xff" + `":1}`: object(0, []string{"\xff"}, number(5, "1")),
	})
	faults(t, map[string]api.Fault{
		"{": {Err: short, At: 1}, "{ ": {Err: short, At: 2}, `{"`: {Err: short, At: 2}, `{"a`: {Err: short, At: 3}, `{"a"`: {Err: short, At: 4}, `{"a" `: {Err: short, At: 5}, `{"a":`: {Err: short, At: 5}, `{"a": `: {Err: short, At: 6}, `{"a":1`: {Err: short, At: 6}, `{"a":1 `: {Err: short, At: 7}, `{"a":1,`: {Err: short, At: 7}, `{"a":1, `: {Err: short, At: 8}, `{"a":1,"`: {Err: short, At: 8}, `{"a":1,"b"`: {Err: short, At: 10}, `{"a":{}`: {Err: short, At: 7}, `{"a":t`: {Err: short, At: 6},
		"{,": {Err: form, At: 1}, "{,}": {Err: form, At: 1}, "{:": {Err: form, At: 1}, "{:1}": {Err: form, At: 1}, `{,"a":1}`: {Err: form, At: 1}, `{"a":1,}`: {Err: form, At: 7}, `{"a":1, }`: {Err: form, At: 8}, `{"a":1,,"b":2}`: {Err: form, At: 7}, `{"a":1 "b":2}`: {Err: form, At: 7}, `{"a":1"b":2}`: {Err: form, At: 6}, `{"a":1,"b":2,}`: {Err: form, At: 13},
		`{"a"}`: {Err: form, At: 4}, `{"a" }`: {Err: form, At: 5}, `{"a",}`: {Err: form, At: 4}, `{"a","b"}`: {Err: form, At: 4}, `{"a" 1}`: {Err: form, At: 5}, `{"a"1}`: {Err: form, At: 4}, `{"a"=1}`: {Err: form, At: 4}, `{"a":}`: {Err: form, At: 5}, `{"a": }`: {Err: form, At: 6}, `{"a":,`: {Err: form, At: 5}, `{"a"::1}`: {Err: form, At: 5}, `{"a":1:2}`: {Err: form, At: 6}, `{"a":"b":1}`: {Err: form, At: 8}, `{"a":1 2}`: {Err: form, At: 7}, `{"a":1,"b"}`: {Err: form, At: 10}, `{"a":1,"b":}`: {Err: form, At: 11}, `{"a":1,2}`: {Err: form, At: 7},
		"{a:1}": {Err: form, At: 1}, "{1:1}": {Err: form, At: 1}, "{01:1}": {Err: form, At: 1}, "{-1:1}": {Err: form, At: 1}, "{null:1}": {Err: form, At: 1}, "{true:1}": {Err: form, At: 1}, "{[]:1}": {Err: form, At: 1}, "{{}:1}": {Err: form, At: 1}, "{'a':1}": {Err: form, At: 1}, `{"a":1,b:2}`: {Err: form, At: 7}, `{"a":1,[`: {Err: form, At: 7}, `{"a":1,{`: {Err: form, At: 7}, `{ 1`: {Err: form, At: 2}, `{\u0022a":1}`: {Err: form, At: 1},
		"{]": {Err: form, At: 1}, `{"a":1]`: {Err: form, At: 6}, `{"a"]`: {Err: form, At: 4}, `{"a":]`: {Err: form, At: 5}, `{"a":1,]`: {Err: form, At: 7}, `{"a":[}`: {Err: form, At: 6}, `{"a":[1}`: {Err: form, At: 7}, `{"a":{]`: {Err: form, At: 6}, "}": {Err: form, At: 0}, "{}}": {Err: form, At: 2}, "{}{}": {Err: form, At: 2}, `{"a":1},`: {Err: form, At: 7}, `{"a":1}1`: {Err: form, At: 7}, `{"a":01}`: {Err: zero, At: 6}, `{"a\x":1}`: {Err: form, At: 4}, "{\"a\n\":1}": {Err: form, At: 3},
	})
}

// P14.1 and P14.10: blanks, and bytes that are none, at each side of each sign.
func TestBlanks(t *testing.T) {
	const marked = `~[~{~"a b"~:~1~,~"c"~:~[~"x y"~,~null~]~}~,~-2.5e3~,~[~]~,~{~}~]~`
	plain := strings.ReplaceAll(marked, "~", "")
	want, f := json.Parse(plain)
	if f != (api.Fault{}) {
		t.Fatalf("Parse(%q) = %v", plain, f)
	}
	for i := range marked {
		if marked[i] != '~' {
			continue
		}
		ahead, behind := strings.ReplaceAll(marked[:i], "~", ""), strings.ReplaceAll(marked[i:], "~", "")
		for _, b := range []string{" ", "\t", "\n", "\r", " \t\n\r ", "\r\n"} {
			if j, f := json.Parse(ahead + b + behind); f != (api.Fault{}) || !json.Same(j, want) || !equal(j, moved(want, len(ahead), len(b))) {
				t.Errorf("Parse(%q) = %+v, %v", ahead+b+behind, j, f)
			}
		}
		for c := range 256 {
			if strings.IndexByte(" \t\n\r\"{}[],:-.+eE0123456789ntf", byte(c)) < 0 {
				b := string([]byte{byte(c)})
				faults(t, map[string]api.Fault{ahead + b + behind: {Err: form, At: len(ahead)}, ahead + b: {Err: form, At: len(ahead)}, ahead + " " + b + " " + behind: {Err: form, At: len(ahead) + 1}})
			}
		}
	}
	all, f := json.Parse(strings.ReplaceAll(marked, "~", "\t\r"))
	if f != (api.Fault{}) || !json.Same(all, want) {
		t.Errorf("blanks everywhere: %+v, %v", all, f)
	}
	// Within a word, a number or a string they are no blanks.
	faults(t, map[string]api.Fault{"n ull": {Err: form, At: 1}, "- 1": {Err: form, At: 1}, "1 .5": {Err: form, At: 2}, "1. 5": {Err: form, At: 2}, "1 e5": {Err: form, At: 2}, "1e 5": {Err: form, At: 2}, "1e+ 5": {Err: form, At: 3}, "1 0": {Err: form, At: 2}, "0 1": {Err: form, At: 2}, `"\ n"`: {Err: form, At: 2}, `"\u 041"`: {Err: form, At: 3}, "\"\t\"": {Err: form, At: 1}})
}

// moved is a value that stands further behind, as far as it is not ahead of a place.
func moved(j api.Json, from, by int) api.Json {
	if j.At >= from {
		j.At += by
	}
	j.Kids = slices.Clone(j.Kids)
	for i, kid := range j.Kids {
		j.Kids[i] = moved(kid, from, by)
	}
	return j
}

// P14.1: keys twice, as they stand and by what they say.
func TestKeysTwice(t *testing.T) {
	spelt := map[string][]string{
		"a":          {`a`, `\u0061`},
		"":           {``},
		"/":          {`/`, `\/`, `\u002f`, `\u002F`},
		"\n":         {`\n`, `\u000a`, `\u000A`},
		"\"\\":       {`\"\\`, `\u0022\u005c`, `\u0022\\`},
		"é":          {`é`, `\u00e9`, `\u00E9`},
		"\U0001f600": {"\U0001f600", `\ud83d\ude00`, `\uD83D\uDE00`},
		"\xff":       {"\xff"},
		"\x00":       {`\u0000`},
		"ab":         {`ab`, `\u0061b`, `a\u0062`},
	}
	for said, ways := range spelt {
		for _, first := range ways {
			for _, second := range ways {
				ahead := `{"` + first + `":1,`
				key := `"` + second + `"`
				at := len(ahead)
				for _, s := range []string{ahead + key + ":2}", ahead + key, ahead + key + "x", ahead + key + ",", ahead + key + "\n!", ahead + key + `:2,` + key + ":3}"} {
					faults(t, map[string]api.Fault{s: {Err: twice, At: at}, "[" + s: {Err: twice, At: at + 1}})
				}
				faults(t, map[string]api.Fault{ahead + " \n" + key + ":2}": {Err: twice, At: at + 2}, ahead + `"z":[{}],` + key + ":2}": {Err: twice, At: at + 9}})
				// As long as the key does not end, nothing is told of it.
				faults(t, map[string]api.Fault{ahead + `"` + second: {Err: short, At: at + 1 + len(second)}, ahead + `"` + second + "\n": {Err: form, At: at + 1 + len(second)}, ahead + `"` + second + `\x"`: {Err: form, At: at + 2 + len(second)}})
				if j, f := json.Parse(ahead + `"` + second + `z":2}`); f != (api.Fault{}) || !slices.Equal(j.Keys, []string{said, said + "z"}) {
					t.Errorf("%q and %qz: %+v, %v", first, second, j, f)
				}
			}
		}
	}
	a := []string{"a"}
	reads(t, map[string]api.Json{
		`{"a":{"a":1}}`: object(0, a, object(5, a, number(10, "1"))), `[{"a":1},{"a":2}]`: list(0, object(1, a, number(6, "1")), object(9, a, number(14, "2"))), `{"a":"a"}`: object(0, a, says(5, "a")),
		`{"b":{"a":1},"a":2}`: object(0, []string{"b", "a"}, object(5, a, number(10, "1")), number(17, "2")), `{"a":1,"A":2,"a ":3,"":4}`: object(0, []string{"a", "A", "a ", ""}, number(5, "1"), number(11, "2"), number(18, "3"), number(23, "4")), `{"a":1,"\\u0061":2}`: object(0, []string{"a", `\u0061`}, number(5, "1"), number(17, "2")), `{"\u00e9":1,"e\u0301":2}`: object(0, []string{"é", "e\u0301"}, number(10, "1"), number(22, "2")),
	})
	faults(t, map[string]api.Fault{
		`{"a":{"b":1},"b":2,"a":3}`: {Err: twice, At: 19}, `{"a":{"b":1,"b":2}}`: {Err: twice, At: 12}, `{"a":{"a":1,"a":2},"a":3}`: {Err: twice, At: 12}, `[{"a":1},{"b":1,"b":2}]`: {Err: twice, At: 16}, `{"a":1,"b":2,"c":3,"b":4,"a":5}`: {Err: twice, At: 19}, `{"a":[{"a":1}],"a":2}`: {Err: twice, At: 15},
	})
	// Many keys, all of them others but the last one.
	s := "{"
	for i := range 5000 {
		s += `"` + strings.Repeat("k", i%7) + string(rune('0'+i%10)) + string([]byte{byte('a' + i/260), byte('a' + i%26), byte('a' + i/26%10)}) + `":0,`
	}
	if j, f := json.Parse(s + `"last":1}`); f != (api.Fault{}) || len(j.Keys) != 5001 || len(j.Kids) != 5001 {
		t.Errorf("%d keys, %v", len(j.Keys), f)
	}
	faults(t, map[string]api.Fault{s + s[1:13] + "1}": {Err: twice, At: len(s)}})
}

// nestings is texts that open some lists or objects in one another, and what closes them.
func nestings(depth int) map[string]string {
	m := map[string]string{}
	for pattern := range 1 << min(depth, 8) {
		opening, closing := "", ""
		for level := range depth {
			if pattern>>(level%8)&1 > 0 {
				opening, closing = opening+`{"a":`, "}"+closing
			} else {
				opening, closing = opening+"[", "]"+closing
			}
		}
		m[opening] = closing
	}
	return m
}

// P14.1: lists and objects in one another.
func TestDeep(t *testing.T) {
	for opening, closing := range nestings(8) {
		for _, inner := range []string{"1", `"[{"`, "null"} {
			j, f := json.Parse(opening + inner + closing)
			if f != (api.Fault{}) || json.Depth(j) != 8 || json.Count(j) != 9 || !json.Fit(j) || json.Print(j) != opening+inner+closing {
				t.Errorf("Parse(%q) = %+v, %v", opening+inner+closing, j, f)
			}
		}
		at := len(opening)
		for _, s := range []string{"[", "{", "[]", "{}", "[1]", `{"a":1}`, "[!", "{!", "[[[", "[\n", "{ "} {
			faults(t, map[string]api.Fault{opening + s: {Err: deep, At: at}, opening + s + closing: {Err: deep, At: at}, opening + " \t" + s + closing: {Err: deep, At: at + 2}})
		}
		faults(t, map[string]api.Fault{opening: {Err: short, At: at}, opening + "!": {Err: form, At: at}, opening + "00": {Err: zero, At: at + 1}, opening + "(": {Err: form, At: at}, opening + `"`: {Err: short, At: at + 1}, opening + ",[": {Err: form, At: at}, opening + "1[": {Err: form, At: at + 1}})
	}
	for opening := range nestings(7) {
		at := len(opening)
		faults(t, map[string]api.Fault{
			opening + "[": {Err: short, At: at + 1}, opening + "{": {Err: short, At: at + 1}, opening + "[[": {Err: deep, At: at + 1}, opening + "[{": {Err: deep, At: at + 1}, opening + `{"a":[`: {Err: deep, At: at + 5}, opening + `{"a":{`: {Err: deep, At: at + 5}, opening + "[[],": {Err: deep, At: at + 1},
			// What stands in a string opens nothing.
			opening + `[1,"[",`: {Err: short, At: at + 7}, opening + `["{",[`: {Err: deep, At: at + 5}, opening + `{"[":1,"{":`: {Err: short, At: at + 11},
			// Where no value may stand, no list and no object begins.
			opening + "{[": {Err: form, At: at + 1}, opening + "{{": {Err: form, At: at + 1}, opening + `{"a"[`: {Err: form, At: at + 4}, opening + "[1[": {Err: form, At: at + 2},
		})
	}
	// What is closed counts no more.
	const eight, closed = "[[[[[[[[", "]]]]]]]]"
	wide := "[" + strings.Repeat(eight[1:]+closed[1:]+",", 50)
	faults(t, map[string]api.Fault{wide: {Err: short, At: len(wide)}, wide + eight: {Err: deep, At: len(wide) + 7}, wide + "1" + closed: {Err: form, At: len(wide) + 2}, "[" + eight: {Err: deep, At: 8}, strings.Repeat("[", 60000): {Err: deep, At: 8}, strings.Repeat(`{"a":`, 10000): {Err: deep, At: 40}, "]" + eight + "[": {Err: form, At: 0}, eight + "]]]]]]]]]": {Err: form, At: 16}})
	if j, f := json.Parse(wide + "[]]"); f != (api.Fault{}) || json.Depth(j) != 8 || len(j.Kids) != 51 {
		t.Errorf("many deep ones, side by side: %v", f)
	}
}

// P14.1: several faults: the first one is told.
func TestFirstFault(t *testing.T) {
	faults(t, map[string]api.Fault{
		`{"a":1,"a":01}`: {Err: twice, At: 7}, `{"a":01,"a":2}`: {Err: zero, At: 6}, `{"a":1,"a":[[[[[[[[[`: {Err: twice, At: 7}, `[[[[[[[[[01`: {Err: deep, At: 8}, `[01,[[[[[[[[[`: {Err: zero, At: 2}, `[1,],01`: {Err: form, At: 3}, `01]`: {Err: zero, At: 1}, `00!`: {Err: zero, At: 1}, `0!0`: {Err: form, At: 1}, `{"a":1,"a"!`: {Err: twice, At: 7}, `{"a":1!,"a"`: {Err: form, At: 6}, `{"a":1,"a`: {Err: short, At: 9}, "[[[[[[[[\x00[": {Err: form, At: 8}, `[[[[[[[{"a":1,"a":2,"b":[`: {Err: twice, At: 14}, `[[[[[[[{"a":1,"b":[`: {Err: deep, At: 18}, `["\udc00",01]`: {Err: form, At: 5}, `"\ud800`: {Err: short, At: 7},
	})
	// A text's end, at each place where it may not be.
	const s = ` {"k\n\ud83d\ude00" : [-10.25E+3 , {"":{}} , [ ] , null,true,false,"\\" ] , "l":0e0} `
	whole := strings.LastIndex(s, "}") + 1
	for end := range s {
		if _, f := json.Parse(s[:end]); end < whole && f != (api.Fault{Err: short, At: end}) || end >= whole && f != (api.Fault{}) {
			t.Errorf("Parse(%q) = %v", s[:end], f)
		}
	}
}
