package xml_test

import (
	"slices"
	"strings"
	"testing"

	"dovetail/api"
	"dovetail/xml"
)

// read is what a text is read as.
func read(t *testing.T, s string) api.Xml {
	t.Helper()
	x, f := xml.Parse(s)
	if f != (api.Fault{}) {
		t.Fatalf("Parse(%q) = %v", s, f)
	}
	return x
}

// kids checks the elements of a name that stand in one.
func kids(t *testing.T, x api.Xml, name string, want ...api.Xml) {
	t.Helper()
	if got := xml.Kids(x, name); !slices.EqualFunc(got, want, equal) {
		t.Errorf("Kids(%s, %q) = %+v, not %+v", brief(x), name, got, want)
	}
	first, ok := xml.Kid(x, name)
	if ok != (len(want) > 0) || ok && !equal(first, want[0]) || !ok && !isZero(first) {
		t.Errorf("Kid(%s, %q) = %+v, %v", brief(x), name, first, ok)
	}
}

// P16.5
func TestKids(t *testing.T) {
	x := read(t, "<a><b>1</b><c b=''><b>2</b></c>x<b d='3'/><B/><a/></a>")
	kids(t, x, "b", element("b", 3, 6, "1"), element("b", 32, 40, attr("d", "3")))
	kids(t, x, "c", element("c", 11, 27, attr("b", ""), element("b", 19, 22, "2")))
	kids(t, x, "B", element("B", 42, 44))
	kids(t, x, "a", element("a", 46, 48))
	for _, name := range []string{"", "d", "bb", "x", "A", " b", "b ", "1", "<b>", "b,c", "\x00"} {
		kids(t, x, name)
	}
	kids(t, read(t, "<a b=''>b</a>"), "b")
	kids(t, read(t, "<a/>"), "a")
	// What no text is read as.
	none, odd := api.Xml{}, api.Xml{Name: "\xff", Text: "odd", At: -3, TextAt: 5, Attrs: []api.Attr{attr("", ""), attr("", "")}, Kids: []api.Xml{{}, {Name: "b"}}}
	wild := api.Xml{Kids: []api.Xml{none, odd, {Name: "b"}, odd, {Name: "", Text: "2"}}}
	kids(t, wild, "", none, api.Xml{Text: "2"})
	kids(t, wild, "\xff", odd, odd)
	kids(t, wild, "b", plain("b"))
	kids(t, none, "")
	kids(t, odd, "", none)
	// What lies in the spare room is not there.
	room := []api.Xml{plain("b", "1"), plain("b", "2"), plain("c")}
	kids(t, plain("a", room[0]), "b", room[0])
	kids(t, api.Xml{Kids: room[:1]}, "b", room[0])
	kids(t, api.Xml{Kids: room[:1]}, "c")
	kids(t, api.Xml{Kids: room[:0]}, "b")
	deepest := plain("b")
	for range 1 << 16 {
		deepest = api.Xml{Name: "b", Kids: []api.Xml{deepest}}
	}
	if got, ok := xml.Kid(deepest, "b"); !ok || !xml.Same(got, deepest.Kids[0]) || len(xml.Kids(deepest, "b")) != 1 {
		t.Error("a deep one")
	}
}

// value checks the text at names.
func value(t *testing.T, x api.Xml, want string, names ...string) {
	t.Helper()
	if got, ok := xml.Value(x, names...); !ok || got != want {
		t.Errorf("Value(%s, %q) = %q, %v, not %q", brief(x), names, got, ok, want)
	}
}

// P16.6
func TestValue(t *testing.T) {
	x := read(t, "<a> \t1\n2\r <b>3</b><c><b> <!-- -->4<![CDATA[ ]]></b><b>5</b><d><b>6</b></d></c><c><e>7</e></c><f/><g> \n</g><b>8</b></a>")
	value(t, x, "1\n2")
	value(t, x, "3", "b")
	value(t, x, "", "c")
	value(t, x, "4", "c", "b")
	value(t, x, "6", "c", "d", "b")
	value(t, x, "", "f")
	value(t, x, "", "g")
	value(t, x, "", "c", "d")
	// The way goes through the first of each name alone.
	for _, names := range [][]string{{"a"}, {""}, {"x"}, {"B"}, {"b", "b"}, {"b", ""}, {"c", "e"}, {"c", "b", "4"}, {"c", "c"}, {"c", "d", "b", "b"}, {"x", "b"}, {"", "b"}, {"a", "b"}, {"f", "b"}, {"b", "c"}, {"d"}, {"d", "b"}} {
		if got, ok := xml.Value(x, names...); ok || got != "" {
			t.Errorf("Value(%q) = %q, %v", names, got, ok)
		}
	}
	for said, want := range map[string]string{"": "", " ": "", "\t\n\r ": "", "x": "x", " x ": "x", "\r\n\t x y\t\tz \n": "x y\t\tz", "\vx\f": "\vx\f", "\u00a0x\u2003": "\u00a0x\u2003", "\x00 x": "\x00 x", "\x85x\xa0": "\x85x\xa0", "\ufeff x": "\ufeff x", " \xff ": "\xff", "<b>": "<b>"} {
		value(t, plain("a", said), want)
		value(t, api.Xml{Text: said}, want)
		value(t, plain("a", plain("b"), plain("c", said), plain("c")), want, "c")
	}
	value(t, api.Xml{Kids: []api.Xml{{Text: " 1 "}, {Text: "2"}}}, "1", "")
	value(t, api.Xml{}, "")
	if got, ok := xml.Value(api.Xml{}, ""); ok || got != "" {
		t.Errorf("Value of nothing = %q, %v", got, ok)
	}
	// A way of any length.
	deepest := plain("b", "end ")
	for range 1 << 16 {
		deepest = api.Xml{Name: "b", Kids: []api.Xml{{Name: "c"}, deepest}}
	}
	names := slices.Repeat([]string{"b"}, 1<<16)
	value(t, deepest, "end", names...)
	if got, ok := xml.Value(deepest, append(names, "b")...); ok || got != "" {
		t.Errorf("Value = %q, %v", got, ok)
	}
}

// apart is elements of which each one differs from all others.
func apart() []api.Xml {
	b, c := attr("b", "1"), attr("c", "1")
	l := []api.Xml{
		{}, {Text: "x"}, plain("a"), plain("A"), plain("b"), plain("ab"), plain("a", "x"), plain("a", "X"), plain("a", " x"), plain("a", "x "), plain("a", " "), plain("a", "xx"), plain("a", "é"), plain("a", "e\u0301"), plain("a", "\xff"), plain("a", "\xfe"),
		plain("a", b), plain("a", attr("b", "")), plain("a", attr("b", "2")), plain("a", attr("b", " 1")), plain("a", c), plain("a", attr("B", "1")), plain("a", b, c), plain("a", c, b), plain("a", b, b), plain("a", b, "x"), plain("a", b, b, b), {Attrs: []api.Attr{b}}, {Attrs: []api.Attr{{}}}, {Attrs: []api.Attr{{}, {}}}, plain("a", attr("", "b")), plain("a", attr("1", "b")),
		plain("a", plain("b")), plain("a", plain("c")), plain("a", plain("b"), plain("c")), plain("a", plain("c"), plain("b")), plain("a", plain("b"), plain("b")), plain("a", plain("b", plain("c"))), plain("a", plain("b", plain("c")), plain("c")), plain("a", plain("b", "x")), plain("a", "x", plain("b")), plain("a", b, plain("b")), plain("a", plain("b", b)), plain("a", api.Xml{}), plain("a", api.Xml{}, api.Xml{}), {Kids: []api.Xml{{}}}, plain("a", plain("a")), plain("a", plain("a", plain("a"))),
	}
	for _, x := range slices.Clone(l) {
		l = append(l, plain("k", plain("l"), x, plain("m")), plain("k", b, plain("l", x)))
	}
	return l
}

// emptied is an element with empty lists where it has none.
func emptied(x api.Xml) api.Xml {
	x.Attrs = append([]api.Attr{}, x.Attrs...)
	kids := []api.Xml{}
	for _, kid := range x.Kids {
		kids = append(kids, emptied(kid))
	}
	x.Kids = kids
	return x
}

// P16.7
func TestSame(t *testing.T) {
	l := apart()
	for i, a := range l {
		for j, b := range l {
			if got := xml.Same(a, b); got != (i == j) {
				t.Errorf("Same(%+v, %+v) = %v", a, b, got)
			}
		}
		// Places play no part, and lists that are empty are those that are not there.
		for _, other := range []api.Xml{moved(a, 5+i, 9), emptied(a), moved(emptied(a), -1, -1)} {
			if !xml.Same(a, other) || !xml.Same(other, a) {
				t.Errorf("%+v and %+v are not the same", a, other)
			}
		}
	}
	for s, other := range map[string]string{"<a/>": " <a ></a >", `<a b="'"/>`: "<a  b = '&apos;'></a>", "<a>x<b/>y</a>": "<a>xy<b/></a>", "<a>&lt;</a>": "<a><![CDATA[<]]></a>", "<a><b/></a>": "<?xml ?><a><!-- --><b/><!-- --></a>"} {
		if !xml.Same(read(t, s), read(t, other)) {
			t.Errorf("%q and %q are not the same", s, other)
		}
	}
	for s, other := range map[string]string{"<a/>": "<a> </a>", "<a b='' c=''/>": "<a c='' b=''/>", "<a><b/><c/></a>": "<a><c/><b/></a>", "<a>xy</a>": "<a>yx</a>"} {
		if xml.Same(read(t, s), read(t, other)) {
			t.Errorf("%q and %q are the same", s, other)
		}
	}
	if a, b, c := deepOne(1<<16), deepOne(1<<16), deepOne(1<<16-1); !xml.Same(a, b) || xml.Same(a, c) {
		t.Error("deep ones")
	}
	room := []api.Xml{plain("b"), plain("c")}
	attrs := []api.Attr{attr("b", ""), attr("c", "")}
	if !xml.Same(api.Xml{Kids: room[:1], Attrs: attrs[:1]}, api.Xml{Kids: []api.Xml{plain("b")}, Attrs: []api.Attr{attr("b", "")}}) {
		t.Error("spare room")
	}
}

// P16.8
func TestCount(t *testing.T) {
	for s, want := range map[string]int{"<a/>": 1, "<a>x</a>": 1, "<a b='' c=''/>": 1, "<a><b/></a>": 2, "<a><b/><b/></a>": 3, "<a><b><c/></b></a>": 3, "<a>x<b>y<c/><d/></b>z<e/></a>": 5, "<a><!-- <b/> --><![CDATA[<c/>]]>&lt;d/&gt;</a>": 1, "<a><b><c><d><e><f><g><h/><h/></g></f></e></d></c></b></a>": 9} {
		if got := xml.Count(read(t, s)); got != want {
			t.Errorf("Count of %q is %d, not %d", s, got, want)
		}
	}
	room := []api.Xml{plain("b", plain("c")), plain("d")}
	for _, c := range []struct {
		x    api.Xml
		want int
	}{{api.Xml{}, 1}, {api.Xml{Text: "<a/>"}, 1}, {api.Xml{Kids: []api.Xml{{}, {}}}, 3}, {api.Xml{Kids: []api.Xml{{Kids: []api.Xml{{}}}, {}}}, 4}, {api.Xml{Kids: room[:1]}, 3}, {deepOne(1 << 16), 1 << 16}, {api.Xml{Kids: make([]api.Xml, 1<<20)}, 1<<20 + 1}, {within(plain("x"), 20), 21}} {
		if got := xml.Count(c.x); got != c.want {
			t.Errorf("Count(%s) = %d, not %d", brief(c.x), got, c.want)
		}
	}
	if s := strings.Repeat("<b/>", 9000); xml.Count(read(t, "<a>"+s+"</a>")) != 9001 {
		t.Error("many")
	}
}
