package json_test

import (
	"slices"
	"strings"
	"testing"

	"dovetail/api"
	"dovetail/json"
)

// within is a value in some lists and objects.
func within(j api.Json, depth int) api.Json {
	for level := range depth {
		if level%3 == 1 {
			j = object(0, []string{"a"}, j)
		} else {
			j = list(0, j)
		}
	}
	return j
}

// fitOnes is values by their texts.
func fitOnes() map[string]api.Json {
	ab := []string{"a", "b"}
	m := map[string]api.Json{
		"null": null(0), "false": no(0), "true": yes(0), `""`: says(0, ""), `"a"`: says(0, "a"), "[]": empty(0), "{}": object(0, nil),
		"[null]": list(0, null(0)), "[1,1]": list(0, number(0, "1"), number(0, "1")), "[[],[]]": list(0, empty(0), empty(0)), `["","",""]`: list(0, says(0, ""), says(0, ""), says(0, "")),
		`{"":null}`: object(0, []string{""}, null(0)), `{"b":1,"a":2}`: object(0, []string{"b", "a"}, number(0, "1"), number(0, "2")), `{"a":{"a":true},"b":{"a":false}}`: object(0, ab, object(0, ab[:1], yes(0)), object(0, ab[:1], no(0))), `[{"a":[]},{"a":{}}]`: list(0, object(0, ab[:1], empty(0)), object(0, ab[:1], object(0, nil))),
		`"\"\\/\u0008\u001f"`: says(0, "\"\\/\b\x1f"), `{"\u000a":"` + "\xff" + `"}`: object(0, []string{"\n"}, says(0, "\xff")), `{"A":0,"a":0,"\"":0}`: object(0, []string{"A", "a", `"`}, number(0, "0"), number(0, "0"), number(0, "0")),
		`"nul"`: says(0, "nul"), `"01"`: says(0, "01"),
	}
	for _, s := range []string{"0", "-0", "1", "-1", "10", "9", "0.0", "1.50", "-1.5e3", "0E0", "0e00", "1E+05", "2e-7", "12345678901234567890.12345678901234567890e12345678901234567890", strings.Repeat("9", 70000)} {
		m[s], m["["+s+"]"] = number(0, s), list(0, number(0, s))
	}
	for depth := range 9 {
		for _, inner := range []api.Json{number(0, "1"), says(0, "["), null(0)} {
			j := within(inner, depth)
			m[written(j)] = j
		}
	}
	m["[[[[[[[[]]]]]]]]"] = list(0, list(0, list(0, list(0, list(0, list(0, list(0, empty(0))))))))
	m["[[[[[[[{}]]]]]]]"] = list(0, list(0, list(0, list(0, list(0, list(0, list(0, object(0, nil))))))))
	return m
}

// written is a fit value's text, by the chapter's words.
func written(j api.Json) string {
	var parts []string
	for i, kid := range j.Kids {
		s := written(kid)
		if j.Kind == api.JsObject {
			s = json.Quote(j.Keys[i]) + ":" + s
		}
		parts = append(parts, s)
	}
	switch j.Kind {
	case api.JsNull:
		return "null"
	case api.JsFalse:
		return "false"
	case api.JsTrue:
		return "true"
	case api.JsNumber:
		return j.Text
	case api.JsString:
		return json.Quote(j.Text)
	case api.JsList:
		return "[" + strings.Join(parts, ",") + "]"
	}
	return "{" + strings.Join(parts, ",") + "}"
}

// P14.2 and P14.3
func TestFit(t *testing.T) {
	for s, j := range fitOnes() {
		if !json.Fit(j) || json.Print(j) != s {
			t.Errorf("%+v: fit %v, written %.60q, not %.60q", j, json.Fit(j), json.Print(j), s)
		}
		// Places play no part.
		for _, at := range []int{-1, 7, 1 << 40} {
			if away := moved(j, 0, at); !json.Fit(away) || json.Print(away) != s {
				t.Errorf("%+v: fit %v, written %.60q", away, json.Fit(away), json.Print(away))
			}
		}
	}
	// Lists that are empty are the same as those that are not there.
	for kind := api.JsNull; kind < api.NumJss; kind++ {
		j := api.Json{Kind: kind, Keys: []string{}, Kids: []api.Json{}}
		if kind == api.JsNumber {
			j.Text = "1"
		}
		if !json.Fit(j) || json.Print(j) == "" {
			t.Errorf("%+v is not fit", j)
		}
	}
	// A text may be longer than one that is read.
	var kids []api.Json
	for range 50000 {
		kids = append(kids, says(0, "x"))
	}
	if want := "[" + strings.Repeat(`"x",`, 49999) + `"x"]`; json.Print(list(0, kids...)) != want {
		t.Error("a long list")
	}
}

// deepOne is lists in one another, or objects.
func deepOne(kind, depth int) api.Json {
	j := api.Json{Kind: kind}
	for range depth - 1 {
		j = api.Json{Kind: kind, Kids: []api.Json{j}}
		if kind == api.JsObject {
			j.Keys = []string{"a"}
		}
	}
	return j
}

// unfit is values that are not fit.
func unfit() []api.Json {
	a, ab, one, two := []string{"a"}, []string{"a", "b"}, number(0, "1"), number(0, "2")
	l := []api.Json{
		{}, {At: 3}, {Text: "null"}, {Kind: 8}, {Kind: -1}, {Kind: 1 << 40}, {Kind: -1 << 40}, {Kind: 8, Text: "1"}, {Kind: 9, Kids: []api.Json{one}}, {Keys: a, Kids: []api.Json{one}}, {Kind: 8, Keys: a, Kids: []api.Json{one}},
		// More keys than kids, and fewer.
		object(0, a), object(0, ab), object(0, nil, one), object(0, a, one, two), object(0, ab, one), object(0, []string{"a", "b", "c"}, one, two),
		// Keys twice.
		object(0, []string{"a", "a"}, one, two), object(0, []string{"a", "a"}, one, one), object(0, []string{"", ""}, one, two), object(0, []string{"a", "b", "a"}, one, two, one), object(0, []string{"b", "a", "a"}, one, two, one), object(0, []string{"\xff", "\xff"}, one, two),
		// Keys of a list.
		list(0, one), list(0, one, two), empty(0), {Kind: api.JsList, Text: "[]"}, {Kind: api.JsList, Text: "x", Kids: []api.Json{one}}, {Kind: api.JsObject, Text: "{}"}, {Kind: api.JsObject, Text: " ", Keys: a, Kids: []api.Json{one}},
	}
	for i := range l {
		if l[i].Kind == api.JsList && l[i].Text == "" {
			l[i].Keys = ab
		}
	}
	for _, kind := range []int{api.JsNull, api.JsFalse, api.JsTrue} {
		for _, text := range []string{"null", "false", "true", " ", "0", "\x00", "x"} {
			l = append(l, api.Json{Kind: kind, Text: text})
		}
	}
	for _, kind := range []int{api.JsNull, api.JsFalse, api.JsTrue, api.JsNumber, api.JsString} {
		j := api.Json{Kind: kind}
		if kind >= api.JsNumber {
			j.Text = "1"
		}
		for _, keys := range [][]string{nil, a, ab} {
			for _, kids := range [][]api.Json{nil, {one}, {{}}, {empty(0)}} {
				if len(keys)+len(kids) > 0 {
					j.Keys, j.Kids = keys, kids
					l = append(l, j)
				}
			}
		}
	}
	for _, text := range []string{
		"", "-", "--1", "+1", "+0", "00", "01", "-00", "-01", "1.", ".5", "-.5", ".", "0.", "1.e5", "1..5", "1.5.5", "1e", "1E", "e5", "1e+", "1e-", "1e+-5", "1ee5", "1e5e5", "1e5.5", "1e.5", "0x1", "0b1", "1_0", "1,5", "1 ", " 1", "1\n", "\t1", "1 2", "1-", "1-1", "1+1", "1/2", "NaN", "nan", "Infinity", "-Infinity", "inf", "null", "true", "[]", "{}", `"1"`, "1]", "1}", "1,1", "1:", "\x001", "1\x00", "\xff", "1\xff", "\u0661", "1f", "1n", "e", "E", "0e", "-0.", "-e1",
	} {
		l = append(l, number(0, text))
	}
	for _, kind := range []int{api.JsList, api.JsObject} {
		for _, depth := range []int{9, 10, 16, 100} {
			l = append(l, deepOne(kind, depth))
		}
	}
	l = append(l, within(one, 9), within(says(0, ""), 10), list(0, one, within(one, 8), one), list(0, within(empty(0), 8)))
	// What is not fit, in what would be.
	for _, j := range slices.Clone(l) {
		l = append(l, list(0, j), list(0, one, j), list(0, j, one), object(0, a, j), object(0, ab, one, j), list(0, object(0, a, list(0, one, j))), within(j, 7))
	}
	return append(l, endless())
}

// endless is a list within itself.
func endless() api.Json {
	kids := make([]api.Json, 2)
	for i := range kids {
		kids[i] = list(0, kids...)
		kids[i].Kids = kids
	}
	return list(0, kids...)
}

// P14.2 and P14.3: what is not fit.
func TestUnfit(t *testing.T) {
	for i, j := range unfit() {
		if json.Fit(j) || json.Print(j) != "" {
			t.Errorf("the unfit %d is fit: %q", i, json.Print(j))
		}
	}
	for _, kind := range []int{api.JsList, api.JsObject} {
		if j := deepOne(kind, 1<<16); json.Fit(j) || json.Print(j) != "" {
			t.Error("a deep one is fit")
		}
	}
}

// P14.1 to P14.3, and P14.9: a text is read as each fit value.
func TestFitIsRead(t *testing.T) {
	for s, j := range fitOnes() {
		if len(s) > 65536 {
			continue
		}
		if again, f := json.Parse(s); f != (api.Fault{}) || !json.Same(again, j) {
			t.Errorf("%q is read as %+v, %v", s, again, f)
		}
	}
}
