package json_test

import (
	"slices"
	"strings"
	"testing"

	"dovetail/api"
	"dovetail/json"
)

// read is what a text is read as.
func read(t *testing.T, s string) api.Json {
	t.Helper()
	j, f := json.Parse(s)
	if f != (api.Fault{}) {
		t.Fatalf("Parse(%q) = %v", s, f)
	}
	return j
}

// gets checks what stands at keys: a value, or nothing, if it is the zero value.
func gets(t *testing.T, j, want api.Json, keys ...string) {
	t.Helper()
	ok := !isZero(want)
	if got, found := json.Path(j, keys...); found != ok || !equal(got, want) || !ok && !isZero(got) {
		t.Errorf("Path(%+v, %q) = %+v, %v", j, keys, got, found)
	}
	if len(keys) == 1 {
		if got, found := json.Get(j, keys[0]); found != ok || !equal(got, want) || !ok && !isZero(got) {
			t.Errorf("Get(%+v, %q) = %+v, %v", j, keys[0], got, found)
		}
	}
}

// P14.5
func TestGet(t *testing.T) {
	var none api.Json
	j := read(t, `{"a":1,"b":{"a":[2],"":{"c":"x"}},"":null,"n":{}}`)
	b := object(11, []string{"a", ""}, list(16, number(17, "2")), object(23, []string{"c"}, says(28, "x")))
	gets(t, j, j)
	gets(t, j, number(5, "1"), "a")
	gets(t, j, b, "b")
	gets(t, j, null(37), "")
	gets(t, j, object(46, nil), "n")
	gets(t, j, list(16, number(17, "2")), "b", "a")
	gets(t, j, says(28, "x"), "b", "", "c")
	for _, keys := range [][]string{{"c"}, {"A"}, {"a "}, {"a", "a"}, {"a", ""}, {"b", "b"}, {"b", "a", "a"}, {"b", "a", ""}, {"b", "a", "0"}, {"b", "", "c", "x"}, {"", ""}, {"n", "a"}, {"c", "b"}, {"c", "a"}, {"x", "b", "a"}} {
		gets(t, j, none, keys...)
	}
	// Of what is no object nothing is told, whatever it holds.
	for _, s := range []string{"null", "false", "true", "1", `"a"`, "[]", `[{"a":1}]`, `["a",1]`, "{}"} {
		gets(t, read(t, s), none, "a")
		gets(t, read(t, s), none, "")
		gets(t, read(t, s), none, "a", "b")
		gets(t, read(t, s), read(t, s))
	}
}

// P14.5: what no text is read as.
func TestGetUnfit(t *testing.T) {
	var none api.Json
	one, two, three := number(1, "1"), number(2, "2"), number(3, "3")
	ab := []string{"a", "b"}
	for kind := -1; kind <= 8; kind++ {
		if kind != api.JsObject {
			j := api.Json{Kind: kind, Keys: ab, Kids: []api.Json{one, two}}
			gets(t, j, none, "a")
			gets(t, j, none, "b", "a")
			gets(t, object(0, ab, j, one), none, "a", "a")
			gets(t, object(0, ab, one, j), j, "b")
			if got, ok := json.Path(j); !ok || !equal(got, j) {
				t.Errorf("Path(%+v) = %+v, %v", j, got, ok)
			}
		}
	}
	gets(t, object(0, []string{"a", "b", "a"}, one, two, three), one, "a")
	gets(t, object(0, []string{"b", "a", "a"}, one, two, three), two, "a")
	gets(t, object(0, []string{"", ""}, one, two), one, "")
	gets(t, object(0, []string{"a", "a"}, one, object(0, ab, two, three)), none, "a", "b")
	gets(t, object(0, ab, one), one, "a")
	gets(t, object(0, ab, one), none, "b")
	gets(t, object(0, []string{"a", "b", "b"}, one, two), two, "b")
	gets(t, object(0, ab), none, "a")
	gets(t, object(0, ab[:1], one, two), one, "a")
	gets(t, object(0, ab[:1], one, two), none, "b")
	gets(t, object(0, nil, one), none, "a")
	gets(t, object(0, nil, one), none, "")
	gets(t, object(0, ab, number(0, "x"), api.Json{Kind: 9, Text: "y"}), api.Json{Kind: 9, Text: "y"}, "b")
	odd := api.Json{Kind: api.JsObject, Text: "odd", Keys: ab, Kids: []api.Json{one, two}}
	gets(t, odd, two, "b")
	gets(t, object(0, ab, odd, one), one, "a", "a")
	// A kid that is a value of no kind is there, though it is the zero value.
	if got, ok := json.Get(object(0, ab, one, none), "b"); !ok || !isZero(got) {
		t.Errorf("Get of a kid without a kind = %+v, %v", got, ok)
	}
	// Keys that lie in the spare room are none.
	room := []string{"a", "b", "c"}
	gets(t, object(0, room[:2], one, two, three), none, "c")
	gets(t, object(0, room[:1], one, two, three), none, "b")
	kids := []api.Json{one, two, three}
	gets(t, object(0, room, kids[:2]...), none, "c")
}

// apart is values of which each one differs from all others.
func apart() []api.Json {
	one, two := number(0, "1"), number(0, "2")
	l := []api.Json{
		{}, {Kind: -1}, {Kind: 8}, null(0), no(0), yes(0), number(0, "1"), number(0, "1.0"), number(0, "-0"), number(0, "0"), number(0, "1e0"), number(0, "1E0"), says(0, ""), says(0, "1"), says(0, "null"), says(0, "a"), says(0, "A"), says(0, "é"), says(0, "e\u0301"), {Text: "1"}, {Kind: api.JsNull, Text: "null"},
		empty(0), list(0, one), list(0, two), list(0, one, two), list(0, two, one), list(0, one, one), list(0, list(0, one)), list(0, list(0, one), two), list(0, list(0, one, two)), list(0, empty(0)), list(0, says(0, "1")), list(0, null(0)), {Kind: api.JsList, Text: "x"}, {Kind: api.JsNull, Kids: []api.Json{one}}, {Kind: api.JsList, Keys: []string{"a"}, Kids: []api.Json{one}}, {Kind: api.JsNull, Keys: []string{"a"}},
		object(0, nil), object(0, []string{"a"}), object(0, nil, one), object(0, []string{"a"}, one), object(0, []string{"a"}, two), object(0, []string{"b"}, one), object(0, []string{""}, one), object(0, []string{"a", "b"}, one), object(0, []string{"a"}, one, two), object(0, []string{"a", "b"}, one, two), object(0, []string{"a", "b"}, two, one), object(0, []string{"b", "a"}, two, one), object(0, []string{"b", "a"}, one, two), object(0, []string{"a", "a"}, one, two), object(0, []string{"ab"}, one), object(0, []string{"a"}, object(0, []string{"a"}, one)), object(0, []string{"a"}, list(0, one)), {Kind: api.JsObject, Text: "x", Keys: []string{"a"}, Kids: []api.Json{one}},
	}
	for _, j := range slices.Clone(l) {
		l = append(l, list(0, one, j, two), object(0, []string{"k"}, list(0, j)))
	}
	return l
}

// P14.6
func TestSame(t *testing.T) {
	l := apart()
	for i, a := range l {
		for j, b := range l {
			if got := json.Same(a, b); got != (i == j) {
				t.Errorf("Same(%+v, %+v) = %v", a, b, got)
			}
		}
		// Places play no part, and lists that are empty are those that are not there.
		away := moved(a, 0, 5+i)
		if !json.Same(a, away) || !json.Same(away, a) || !json.Same(a, emptied(a)) || !json.Same(emptied(a), a) {
			t.Errorf("%+v is not the same elsewhere", a)
		}
	}
	for s, other := range map[string]string{`{"a":[1,"x\u00e9"]}`: " {\"a\" : [ 1 ,\n\"xé\" ] }", `"\/"`: `"\u002F"`, "[null]": "[\tnull]"} {
		if !json.Same(read(t, s), read(t, other)) {
			t.Errorf("%q and %q are not the same", s, other)
		}
	}
	for _, kind := range []int{api.JsList, api.JsObject} {
		a, b, c := deepOne(kind, 1<<16), deepOne(kind, 1<<16), deepOne(kind, 1<<16-1)
		if !json.Same(a, b) || json.Same(a, c) {
			t.Error("deep ones")
		}
	}
}

// emptied is a value with empty lists where it has none.
func emptied(j api.Json) api.Json {
	j.Keys = append([]string{}, j.Keys...)
	kids := []api.Json{}
	for _, kid := range j.Kids {
		kids = append(kids, emptied(kid))
	}
	j.Kids = kids
	return j
}

// P14.7
func TestSorted(t *testing.T) {
	for s, want := range map[string]string{
		"null": "null", "1": "1", `"b"`: `"b"`, "[]": "[]", "{}": "{}", "[3,1,2]": "[3,1,2]", `["b","a"]`: `["b","a"]`, `{"a":1}`: `{"a":1}`,
		`{"b":1,"a":2}`: `{"a":2,"b":1}`, `{"b":1,"c":2,"a":3}`: `{"a":3,"b":1,"c":2}`, `{"c":{"b":1,"a":2},"a":[{"z":1,"y":2}]}`: `{"a":[{"y":2,"z":1}],"c":{"a":2,"b":1}}`, `[[{"b":{"d":1,"c":2},"a":0}]]`: `[[{"a":0,"b":{"c":2,"d":1}}]]`,
		// Byte by byte.
		`{"b":0,"B":1,"a":2,"aa":3,"":4,"é":5,"~":6,"10":7,"9":8,"_":9}`: `{"":4,"10":7,"9":8,"B":1,"_":9,"a":2,"aa":3,"b":0,"~":6,"é":5}`, `{"` + "\xff" + `":0,"\uffff":1,"\ud83d\ude00":2,"\u0000":3}`: `{"\u0000":3,"` + "\uffff" + `":1,"` + "\U0001f600" + `":2,"` + "\xff" + `":0}`,
	} {
		j := read(t, s)
		if got := json.Sorted(j); json.Print(got) != want || got.At != j.At {
			t.Errorf("Sorted(%q) is %q, not %q", s, json.Print(got), want)
		}
	}
	// Places stay.
	if got, want := json.Sorted(read(t, ` {"b":[ 1],"a":{"d":2,"c":3}}`)), object(1, []string{"a", "b"}, object(15, []string{"c", "d"}, number(26, "3"), number(20, "2")), list(6, number(8, "1"))); !equal(got, want) {
		t.Errorf("Sorted = %+v, not %+v", got, want)
	}
}

// P14.7: what no text is read as.
func TestSortedUnfit(t *testing.T) {
	one, two, three := number(1, "1"), number(2, "2"), number(3, "3")
	turned := object(4, []string{"b", "a"}, one, two)
	rising := object(4, []string{"a", "b"}, two, one)
	for _, c := range []struct{ j, want api.Json }{
		// Those with the same key stay in their order.
		{object(0, []string{"b", "a", "b", "a"}, one, two, three, one), object(0, []string{"a", "a", "b", "b"}, two, one, one, three)},
		{object(0, []string{"", "", ""}, three, one, two), object(0, []string{"", "", ""}, three, one, two)},
		// Of an object with another number of keys than kids both stay, but not what stands in it.
		{object(0, []string{"b", "a"}, turned), object(0, []string{"b", "a"}, rising)},
		{object(0, []string{"b"}, turned, one), object(0, []string{"b"}, rising, one)},
		{object(0, []string{"c", "b", "a"}, three, turned), object(0, []string{"c", "b", "a"}, three, rising)},
		{object(0, []string{"b", "a"}, three, two, turned), object(0, []string{"b", "a"}, three, two, rising)},
		{object(0, nil, turned, one), object(0, nil, rising, one)},
		{object(0, []string{"b", "a"}), object(0, []string{"b", "a"})},
		// Texts and kinds stay.
		{api.Json{Kind: api.JsObject, Text: "x", Keys: []string{"b", "a"}, Kids: []api.Json{one, turned}}, api.Json{Kind: api.JsObject, Text: "x", Keys: []string{"a", "b"}, Kids: []api.Json{rising, one}}},
		{list(0, two, turned, one), list(0, two, rising, one)},
		{api.Json{Kind: api.JsNull, Text: "y", Kids: []api.Json{turned}}, api.Json{Kind: api.JsNull, Text: "y", Kids: []api.Json{rising}}},
		{api.Json{Kind: -5, At: -9, Kids: []api.Json{two, turned}}, api.Json{Kind: -5, At: -9, Kids: []api.Json{two, rising}}},
		{api.Json{}, api.Json{}},
	} {
		if got := json.Sorted(c.j); !equal(got, c.want) {
			t.Errorf("Sorted(%+v) = %+v, not %+v", c.j, got, c.want)
		}
	}
	// Keys are an object's: what else has some keeps them as they stand.
	for kind := -1; kind <= 8; kind++ {
		if kind == api.JsObject {
			continue
		}
		j := api.Json{Kind: kind, Keys: []string{"b", "a"}, Kids: []api.Json{turned, one}}
		want := api.Json{Kind: kind, Keys: []string{"b", "a"}, Kids: []api.Json{rising, one}}
		if got := json.Sorted(j); !equal(got, want) {
			t.Errorf("Sorted(%+v) = %+v, not %+v", j, got, want)
		}
	}
	// Many with the same key.
	many, want := api.Json{Kind: api.JsObject}, api.Json{Kind: api.JsObject}
	for _, key := range []string{"a", "b", "c"} {
		for i := range 300 {
			if i*i%3 == strings.Index("abc", key)%2 {
				want.Keys, want.Kids = append(want.Keys, key), append(want.Kids, number(i, key))
			}
		}
	}
	for i := range 300 {
		for _, key := range []string{"c", "a", "b"} {
			if i*i%3 == strings.Index("abc", key)%2 {
				many.Keys, many.Kids = append(many.Keys, key), append(many.Kids, number(i, key))
			}
		}
	}
	if got := json.Sorted(many); !equal(got, want) || len(want.Keys) < 300 {
		t.Error("many with the same key don't stay in their order")
	}
	deepest := deepOne(api.JsObject, 1<<16)
	if !json.Same(json.Sorted(deepest), deepest) {
		t.Error("a deep one is another one, sorted")
	}
}

// P14.8
func TestCountAndDepth(t *testing.T) {
	for s, want := range map[string][2]int{
		"null": {1, 0}, "false": {1, 0}, "true": {1, 0}, "1": {1, 0}, `"[[]]"`: {1, 0}, "[]": {1, 1}, "{}": {1, 1}, "[1]": {2, 1}, "[1,2,3]": {4, 1}, "[[]]": {2, 2}, "[[],[]]": {3, 2}, `{"a":1}`: {2, 1}, `{"a":1,"b":2}`: {3, 1}, `{"a":{},"b":[[]]}`: {4, 3}, "[[[]],[]]": {4, 3}, "[[],[[]]]": {4, 3}, `[1,{"a":[2,3],"b":null},[]]`: {8, 3}, `{"a":[1,"x"]}`: {4, 2}, "[[[[[[[[]]]]]]]]": {8, 8},
	} {
		if j := read(t, s); json.Count(j) != want[0] || json.Depth(j) != want[1] {
			t.Errorf("%q: Count %d, Depth %d", s, json.Count(j), json.Depth(j))
		}
	}
	one := number(0, "1")
	nested := list(0, list(0, one))
	for _, c := range []struct {
		j            api.Json
		count, depth int
	}{
		{api.Json{}, 1, 0}, {api.Json{Kind: 8}, 1, 0}, {api.Json{Kind: api.JsNull, Kids: []api.Json{nested}}, 4, 0}, {api.Json{Kind: api.JsString, Kids: []api.Json{one, one}}, 3, 0}, {api.Json{Kind: -1, Kids: []api.Json{nested, nested}}, 7, 0}, {list(0, api.Json{Kids: []api.Json{nested}}), 5, 1}, {list(0, api.Json{Kind: 9, Kids: []api.Json{nested}}, empty(0)), 6, 2}, {object(0, []string{"a", "b"}, one), 2, 1}, {object(0, nil, one, nested), 5, 3}, {object(0, []string{"a", "b"}), 1, 1}, {api.Json{Kind: api.JsList, Keys: []string{"a"}}, 1, 1}, {object(0, []string{"a", "a"}, nested, one), 5, 3}, {within(one, 20), 21, 20},
	} {
		if json.Count(c.j) != c.count || json.Depth(c.j) != c.depth {
			t.Errorf("%+v: Count %d, Depth %d", c.j, json.Count(c.j), json.Depth(c.j))
		}
	}
	for _, kind := range []int{api.JsList, api.JsObject} {
		if j := deepOne(kind, 1<<16); json.Count(j) != 1<<16 || json.Depth(j) != 1<<16 {
			t.Errorf("a deep one: Count %d, Depth %d", json.Count(j), json.Depth(j))
		}
	}
	wide := list(0, make([]api.Json, 1<<20)...)
	if json.Count(wide) != 1<<20+1 || json.Depth(wide) != 1 {
		t.Error("a wide one")
	}
}

// P14.5: as many keys as may be, one in another.
func TestLongPath(t *testing.T) {
	const depth = 1 << 16
	j := within(number(7, "1"), 0)
	for range depth {
		j = object(0, []string{"z", "a"}, null(0), j)
	}
	keys := slices.Repeat([]string{"a"}, depth)
	gets(t, j, number(7, "1"), keys...)
	gets(t, j, api.Json{}, append(keys, "a")...)
	keys[depth-1] = "b"
	gets(t, j, api.Json{}, keys...)
}
