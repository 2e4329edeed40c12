package stanza_test

import (
	"slices"
	"strings"
	"testing"

	"dovetail/api"
	"dovetail/checks"
	"dovetail/stanza"
)

// mixed is a stanza with names once, twice and three times.
func mixed() api.Stanza {
	return of(field("a", "1", 1, 0, 3), field("b", "2", 2, 5, 8), field("c", "3", 3, 10, 13), field("b", "4", 4, 15, 18), field("c", "5", 5, 20, 23), field("c", "6", 6, 25, 28))
}

// wild is a stanza that no text is read as.
func wild() api.Stanza {
	return api.Stanza{Line: -7, Fields: []api.Field{
		{Name: "A", Value: "\x00", Line: -1, At: -2, From: -3}, {}, {Name: "x y", Value: " "}, {Value: "again"}, {Name: "A\x00"}, {Name: "A", Line: 9}, {Name: "\xff", At: 4}, {Name: "a"},
	}}
}

// P15.2: Get.
func TestGet(t *testing.T) {
	x, w := mixed(), wild()
	for _, c := range []struct {
		x    api.Stanza
		name string
		at   int
	}{
		{x, "a", 0}, {x, "b", 1}, {x, "c", 2}, {x, "d", -1}, {x, "", -1}, {x, "A", -1}, {x, "B", -1}, {x, "a ", -1}, {x, "ab", -1}, {x, "1", -1},
		{w, "A", 0}, {w, "", 1}, {w, "x y", 2}, {w, "A\x00", 4}, {w, "\xff", 6}, {w, "a", 7}, {w, "x", -1}, {w, "X Y", -1}, {w, "\xfe", -1}, {w, "\ufffd", -1},
		{api.Stanza{}, "a", -1}, {api.Stanza{}, "", -1}, {api.Stanza{Line: 3, Fields: []api.Field{}}, "a", -1},
	} {
		want := api.Field{}
		if c.at >= 0 {
			want = c.x.Fields[c.at]
		}
		if f, ok := stanza.Get(c.x, c.name); f != want || ok != (c.at >= 0) {
			t.Errorf("Get(%+v, %q) = %+v, %v", c.x, c.name, f, ok)
		}
	}
	l, _ := stanza.Parse("Package: a\nDEPENDS: b\ndepends: c")
	if f, ok := stanza.Get(l[0], "depends"); f != field("depends", "b", 2, 11, 20) || !ok {
		t.Errorf("Get = %+v, %v", f, ok)
	}
	if f, ok := stanza.Get(l[0], "DEPENDS"); f != (api.Field{}) || ok {
		t.Errorf("Get = %+v, %v", f, ok)
	}
}

// P15.2: All.
func TestAll(t *testing.T) {
	x, w := mixed(), wild()
	for _, c := range []struct {
		x    api.Stanza
		name string
		at   []int
	}{
		{x, "a", []int{0}}, {x, "b", []int{1, 3}}, {x, "c", []int{2, 4, 5}}, {x, "d", nil}, {x, "", nil}, {x, "C", nil}, {x, "bc", nil},
		{w, "A", []int{0, 5}}, {w, "", []int{1, 3}}, {w, "x y", []int{2}}, {w, "A\x00", []int{4}}, {w, "\xff", []int{6}}, {w, "a", []int{7}}, {w, "\ufffd", nil},
		{api.Stanza{}, "a", nil}, {api.Stanza{}, "", nil},
	} {
		var want []api.Field
		for _, at := range c.at {
			want = append(want, c.x.Fields[at])
		}
		if l := stanza.All(c.x, c.name); !slices.Equal(l, want) {
			t.Errorf("All(%+v, %q) = %+v, not %+v", c.x, c.name, l, want)
		}
	}
}

// P15.2: Twice.
func TestTwice(t *testing.T) {
	x, w := mixed(), wild()
	for _, c := range []struct {
		x   api.Stanza
		but []string
		at  int
	}{
		{x, nil, 3}, {x, []string{}, 3}, {x, []string{"a"}, 3}, {x, []string{"b"}, 4}, {x, []string{"c"}, 3}, {x, []string{"c", "b"}, -1}, {x, []string{"b", "c"}, -1}, {x, []string{"d", "b", "b"}, 4}, {x, []string{"B", "", "4"}, 3}, {x, []string{"a", "d", "e", "c", "b", "f"}, -1},
		{w, nil, 3}, {w, []string{""}, 5}, {w, []string{"A"}, 3}, {w, []string{"a", ""}, 5}, {w, []string{"A", ""}, -1},
		{api.Stanza{}, nil, -1}, {api.Stanza{}, []string{"a"}, -1}, {of(field("a", "", 1, 0, 2)), nil, -1},
		{of(field("a", "x", 1, 0, 2), field("b", "x", 1, 0, 2), field("A", "x", 1, 0, 2)), nil, -1},
		{of(field("a", "1", 1, 0, 2), field("a", "1", 1, 0, 2)), nil, 1},
		{of(field("a", "1", 1, 0, 2), field("a", "2", 2, 0, 2), field("a", "3", 3, 0, 2)), nil, 1},
		{of(field("a", "1", 1, 0, 2), field("b", "2", 2, 0, 2), field("b", "3", 3, 0, 2), field("a", "4", 4, 0, 2)), nil, 2},
		{of(field("a", "1", 1, 0, 2), field("b", "2", 2, 0, 2), field("b", "3", 3, 0, 2), field("a", "4", 4, 0, 2)), []string{"b"}, 3},
	} {
		want := api.Field{}
		if c.at >= 0 {
			want = c.x.Fields[c.at]
		}
		if f, ok := stanza.Twice(c.x, c.but); f != want || ok != (c.at >= 0) {
			t.Errorf("Twice(%+v, %q) = %+v, %v", c.x, c.but, f, ok)
		}
	}
}

// P15.2, by its words, of all short stanzas of a few names.
func TestLookEverywhere(t *testing.T) {
	names := []string{"a", "b", "A", ""}
	for _, row := range checks.Lists(names, 5) {
		x := api.Stanza{Line: 1}
		for i, n := range row {
			x.Fields = append(x.Fields, field(n, strings.Repeat("v", i), i, 2*i, 3*i))
		}
		for _, n := range append(names, "c") {
			var want []api.Field
			for _, f := range x.Fields {
				if f.Name == n {
					want = append(want, f)
				}
			}
			if l := stanza.All(x, n); !slices.Equal(l, want) {
				t.Fatalf("All(%q, %q) = %+v", row, n, l)
			}
			f, ok := stanza.Get(x, n)
			if ok != (len(want) > 0) || ok && f != want[0] || !ok && f != (api.Field{}) {
				t.Fatalf("Get(%q, %q) = %+v, %v", row, n, f, ok)
			}
		}
		for _, but := range checks.Lists(names, 2) {
			at := -1
			for i := len(row) - 1; i > 0; i-- {
				if slices.Contains(row[:i], row[i]) && !slices.Contains(but, row[i]) {
					at = i
				}
			}
			f, ok := stanza.Twice(x, but)
			if ok != (at >= 0) || ok && f != x.Fields[at] || !ok && f != (api.Field{}) {
				t.Fatalf("Twice(%q, %q) = %+v, %v", row, but, f, ok)
			}
		}
	}
}

// items is pieces by their texts and places.
func items(t *testing.T, value string, sep byte, want ...api.Piece) {
	t.Helper()
	f := api.Field{Name: "n", Value: value, Line: 4, At: 50, From: 60}
	if l := stanza.Items(f, sep); !slices.Equal(l, want) {
		t.Errorf("Items(%q, %q) = %+v, not %+v", value, sep, l, want)
	}
}

// P15.4.
func TestItems(t *testing.T) {
	at := func(text string, place int) api.Piece { return api.Piece{Text: text, At: place} }
	items(t, "", ',')
	items(t, "", ' ')
	items(t, ",", ',')
	items(t, ",,,", ',')
	items(t, " , \t,, ", ',')
	items(t, "  \t ", ',')
	items(t, "a", ',', at("a", 0))
	items(t, "a,b,c", ',', at("a", 0), at("b", 2), at("c", 4))
	items(t, "a, b,c", ',', at("a", 0), at("b", 3), at("c", 5))
	items(t, "a , b\t,\t c", ',', at("a", 0), at("b", 4), at("c", 9))
	items(t, "a,,b", ',', at("a", 0), at("b", 3))
	items(t, "a, \t ,b", ',', at("a", 0), at("b", 6))
	items(t, ",a", ',', at("a", 1))
	items(t, "a,", ',', at("a", 0))
	items(t, ",,a,,b,,", ',', at("a", 2), at("b", 5))
	items(t, " \ta b \t, \tc\td\t ", ',', at("a b", 2), at("c\td", 10))
	items(t, "a,b", ';', at("a,b", 0))
	items(t, "  a,b ", ';', at("a,b", 2))
	items(t, "a|b|", '|', at("a", 0), at("b", 2))
	// A separator that is a blank.
	items(t, "a b", ' ', at("a", 0), at("b", 2))
	items(t, "  a   b ", ' ', at("a", 2), at("b", 6))
	items(t, "a \t b\tc", ' ', at("a", 0), at("b\tc", 4))
	items(t, "\ta\t \tb", '\t', at("a", 1), at("b", 5))
	items(t, "   ", ' ')
	items(t, "\t \t", '\t')
	items(t, "ab", ' ', at("ab", 0))
	// Values that no text is read as.
	items(t, " \n,\r, a\n,\xff", ',', at("\n", 1), at("\r", 3), at("a\n", 6), at("\xff", 9))
	items(t, "a\nb\n", '\n', at("a", 0), at("b", 2))
	items(t, "\x00a\x00", 0, at("a", 1))
	items(t, "a\xffb", 255, at("a", 0), at("b", 2))
	items(t, "aXbxc", 'x', at("aXb", 0), at("c", 4))
}

// P15.4, by its words.
func TestItemsEverywhere(t *testing.T) {
	for _, s := range checks.Texts("a, \t;", 6) {
		for _, sep := range []byte{',', ' ', '\t', ';', 'a', 'b'} {
			var want []api.Piece
			at := 0
			for _, part := range strings.Split(s, string([]byte{sep})) {
				if text := strings.Trim(part, " \t"); text != "" {
					want = append(want, api.Piece{Text: text, At: at + strings.Index(part, text)})
				}
				at += len(part) + 1
			}
			items(t, s, sep, want...)
		}
	}
}
