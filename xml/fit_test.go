package xml_test

import (
	"slices"
	"strings"
	"testing"

	"dovetail/api"
	"dovetail/xml"
)

// written is a fit element's text, by the chapter's words.
func written(x api.Xml) string {
	s := "<" + x.Name
	for _, a := range x.Attrs {
		s += " " + a.Name + `="` + xml.Escape(a.Value) + `"`
	}
	s += ">" + xml.Escape(x.Text)
	for _, kid := range x.Kids {
		s += written(kid)
	}
	return s + "</" + x.Name + ">"
}

// within is an element in some others.
func within(x api.Xml, depth int) api.Xml {
	for level := range depth {
		x = plain(string("abc"[level%3]), attr("b", ""), "x", x)
	}
	return x
}

// moved is an element elsewhere.
func moved(x api.Xml, at, textAt int) api.Xml {
	x.At, x.TextAt, x.Kids = at, textAt, slices.Clone(x.Kids)
	for i, kid := range x.Kids {
		x.Kids[i] = moved(kid, at+i, textAt-i)
	}
	return x
}

// fitOnes is elements by their texts.
func fitOnes() map[string]api.Xml {
	n48 := nameOf('n', 48)
	m := map[string]api.Xml{
		"<a></a>": plain("a"), "<_></_>": plain("_"), "<Z9-._:z></Z9-._:z>": plain("Z9-._:z"), "<" + n48 + "></" + n48 + ">": plain(n48), "<a>x</a>": plain("a", "x"), "<a> </a>": plain("a", " "), "<a>&lt;&gt;&amp;&quot;&apos;</a>": plain("a", `<>&"'`), "<a>\x00\xff\n</a>": plain("a", "\x00\xff\n"), "<a>]]&gt;</a>": plain("a", "]]>"),
		`<a b=""></a>`: plain("a", attr("b", "")), `<a b="1" c="2"></a>`: plain("a", attr("b", "1"), attr("c", "2")), `<a c="2" b="1"></a>`: plain("a", attr("c", "2"), attr("b", "1")), `<a b="&lt;&gt;&amp;&quot;&apos;"></a>`: plain("a", attr("b", `<>&"'`)), `<a a="a">a</a>`: plain("a", attr("a", "a"), "a"), `<a b="" B="" b.=""></a>`: plain("a", attr("b", ""), attr("B", ""), attr("b.", "")), `<a ` + n48 + `="` + "\x00\xff" + `"></a>`: plain("a", attr(n48, "\x00\xff")), "<a b=\"\n \"></a>": plain("a", attr("b", "\n ")),
		"<a><b></b></a>": plain("a", plain("b")), "<a><a></a><a></a></a>": plain("a", plain("a"), plain("a")), "<a>xy<b></b><c></c></a>": plain("a", "x", plain("b"), "y", plain("c")), `<a b=""><c b=""></c></a>`: plain("a", attr("b", ""), plain("c", attr("b", ""))), "<a>1<b>2<c>3</c></b><d>4</d></a>": plain("a", "1", plain("b", "2", plain("c", "3")), plain("d", "4")),
	}
	for depth := range 8 {
		for _, inner := range []api.Xml{plain("x"), plain("x", "<x>"), plain("x", attr("x", "<x>"))} {
			x := within(inner, depth)
			m[written(x)] = x
		}
	}
	long := strings.Repeat("x", 70000)
	m["<a>"+long+"</a>"] = plain("a", long)
	return m
}

// P16.2 and P16.4
func TestFit(t *testing.T) {
	for s, x := range fitOnes() {
		if !xml.Fit(x) || xml.Print(x) != s {
			t.Errorf("%s: fit %v, written %.90q, not %.90q", brief(x), xml.Fit(x), xml.Print(x), s)
		}
		// Places play no part.
		for _, at := range []int{-1, 7, 1 << 40} {
			if away := moved(x, at, at*3); !xml.Fit(away) || xml.Print(away) != s {
				t.Errorf("%s: fit %v, written %.90q", brief(away), xml.Fit(away), xml.Print(away))
			}
		}
	}
	// Lists that are empty are the same as those that are not there.
	if x := (api.Xml{Name: "a", Attrs: []api.Attr{}, Kids: []api.Xml{}}); !xml.Fit(x) || xml.Print(x) != "<a></a>" {
		t.Errorf("fit %v, written %q", xml.Fit(x), xml.Print(x))
	}
	// A text may be longer than one that is read.
	wide := plain("a")
	wide.Kids = slices.Repeat([]api.Xml{plain("b", attr("c", ""))}, 50000)
	if want := "<a>" + strings.Repeat(`<b c=""></b>`, 50000) + "</a>"; !xml.Fit(wide) || xml.Print(wide) != want {
		t.Error("a wide one")
	}
}

// deepOne is so many elements in one another.
func deepOne(depth int) api.Xml {
	x := plain("a")
	for range depth - 1 {
		x = api.Xml{Name: "a", Kids: []api.Xml{x}}
	}
	return x
}

// endless is an element within itself.
func endless() api.Xml {
	kids := make([]api.Xml, 2)
	for i := range kids {
		kids[i] = api.Xml{Name: "a", Kids: kids}
	}
	return api.Xml{Name: "a", Kids: kids}
}

// noNames is texts that are no names.
func noNames() []string {
	l := []string{"", " ", "1", "1a", "-", "-a", ".a", ":a", ":", ".", "a b", " a", "a ", "a\n", "a/", "a>", "<a", "a=", "a&b", "é", "aé", "\xff", "a\x80", "\x00", "a\x00", "a,b", "a;", "a@", "a[", "a`", "a{", "a\"", "a'", "@", "[", "`", "{", "a!", "a#", "a+", "a*", "a\u0661", nameOf('n', 49), nameOf('n', 60), strings.Repeat("a", 70000), "1" + nameOf('n', 47)}
	for c := range 256 {
		b := string([]byte{byte(c)})
		if !isIn(nameFirst, byte(c)) {
			l = append(l, b, b+"a")
		}
		if !isIn(nameBytes, byte(c)) {
			l = append(l, "a"+b, "a"+b+"a")
		}
	}
	return l
}

// unfit is elements that are not fit.
func unfit() []api.Xml {
	l := []api.Xml{
		{}, {Text: "x"}, {At: 3, TextAt: 4}, {Kids: []api.Xml{plain("a")}}, {Attrs: []api.Attr{attr("a", "")}},
		// Attributes twice.
		plain("a", attr("b", ""), attr("b", "")), plain("a", attr("b", "1"), attr("b", "2")), plain("a", attr("b", ""), attr("c", ""), attr("b", "")), plain("a", attr("c", ""), attr("b", ""), attr("b", "")), plain("a", attr("a", ""), attr("a", ""), "x", plain("a")),
	}
	for _, s := range noNames() {
		l = append(l, api.Xml{Name: s}, plain("a", attr(s, "x")), plain("a", attr("b", ""), attr(s, ""), attr("c", "")), plain("a", attr(s, ""), attr(s, "")))
	}
	for _, x := range slices.Clone(l) {
		l = append(l, plain("a", x), plain("a", plain("b"), x, plain("c")), plain("a", plain("b", "x"), plain("b", x)), within(x, 7))
	}
	for _, depth := range []int{9, 10, 16, 100, 1 << 16} {
		l = append(l, deepOne(depth), plain("a", plain("b"), deepOne(max(8, depth-1))))
	}
	return append(l, within(plain("x"), 8), endless(), plain("a", endless()))
}

// P16.2 and P16.4: what is not fit.
func TestUnfit(t *testing.T) {
	for i, x := range unfit() {
		if xml.Fit(x) || xml.Print(x) != "" {
			t.Errorf("the unfit %d is fit: %.90q", i, xml.Print(x))
		}
	}
	if x := deepOne(8); !xml.Fit(x) || xml.Print(x) != strings.Repeat("<a>", 8)+strings.Repeat("</a>", 8) {
		t.Error("eight in one another are not fit")
	}
	// Names are an element's own: its kids may have the same.
	if x := plain("a", attr("b", ""), plain("a", attr("b", "")), plain("a", attr("b", ""))); !xml.Fit(x) {
		t.Error("names in several elements")
	}
}
