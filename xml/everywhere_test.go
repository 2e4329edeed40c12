package xml_test

import (
	"math/rand"
	"slices"
	"strings"
	"testing"

	"dovetail/api"
	"dovetail/checks"
	"dovetail/xml"
)

// samples is texts with all parts.
func samples() []string {
	return []string{
		`<a b="1">x<!-- c -->y<k/>&lt;</a>`,
		"<?xml version='1.0'?>\n<!-- > -->\t<p:a  b = '1' c=\"'&gt;&#65;\"\n/> <!----> ",
		"<a><bc><![CDATA[<]]>]]></bc >&amp;&quot;&apos;&#x1F600;&#00000009;</a\r>",
		"<a><b/><b></b><b c=''><d e='' f='&#xe000;'/></b> <!--x--> </a>",
		"<a><b><c><d><e><f><g><h i=''>j</h></g></f></e></d></c></b></a>",
		"<" + nameOf('n', 48) + " " + nameOf('m', 48) + "=''>x</" + nameOf('n', 48) + ">",
		"<a bb='' b='' bbb='&#1114111;'>&#xd7ff;]]></a>",
	}
}

// rows is all short rows of what texts are made of, behind some beginnings.
func rows() []string {
	l := slices.Concat(
		checks.Rows([]string{"<", ">", "/", "a", " ", "=", "'", "!", "-"}, 5),
		checks.Rows([]string{"<a>", "</a>", "<a/>", "<!--", "-->", "<![CDATA[", "]]>", "x", "&lt;", " "}, 4),
	)
	for ahead, parts := range map[string][]string{
		"<a":                       {"b", " ", "=", "''", `"`, "/", ">", "</a>"},
		"<a b='1' ":                {"b", "bc", " ", "=", "'", "/>", "&amp;", "<"},
		"<a>":                      {"&", "#", "x", ";", "1", "d800", "lt", "</a>"},
		"<a>&#":                    {"x", "0", "1", "9", "A", "d8", ";</a>", "00000"},
		"<ab>":                     {"<", "/", "a", "b", " ", ">", "!", "c"},
		"<a><!":                    {"-", ">", "[", "CDATA[", "]", "</a>", "x"},
		"<?xml":                    {"?", ">", " ", "x", "<a/>", "<", "!----"},
		"<a/>":                     {"<!", "--", ">", "-", " ", "<", "b/>"},
		"<a><b><c><d><e><f><g>":    {"<h>", "</h>", "<h/>", "<", "i", "x", "</g>"},
		"<a><b><c><d><e><f><g><h>": {"<h>", "</h>", "<h/>", "<", "i", "!--", "</g>"},
	} {
		for _, row := range checks.Rows(parts, 4) {
			l = append(l, ahead+row)
		}
	}
	return l
}

// P16.1, by its words: all short rows, and samples with each byte left out, replaced by each other one, and each byte laid in at each place.
func TestParseEverywhere(t *testing.T) {
	l, kinds := rows(), map[api.Errno]int{}
	for _, s := range samples() {
		if _, f := xml.Parse(s); f != (api.Fault{}) {
			t.Errorf("Parse(%q): %v", s, f)
		}
		l = append(l, checks.Edited(s, allBytes())...)
	}
	for _, s := range l {
		x, f := xml.Parse(s)
		if want, fault := machineReads(s); f != fault || !equal(x, want) || f.Err != api.OK && !isZero(x) {
			t.Fatalf("Parse(%q) = %+v, %v, not %+v, %v", s, x, f, want, fault)
		}
		kinds[f.Err]++
		if f.Err == api.OK && !xml.Fit(x) {
			t.Errorf("%q is read as %+v, which is not fit", s, x)
		}
	}
	for err, least := range map[api.Errno]int{api.OK: 10000, form: 10000, short: 10000, word: 1000, twice: 400, deep: 400, kind: 400, long: 100} {
		if kinds[err] < least {
			t.Errorf("only %d texts of the kind %d", kinds[err], err)
		}
	}
}

// P16.1: all rows of bytes, by a fixed source: of any bytes, and of those of which texts are made.
func TestAnyBytes(t *testing.T) {
	source := rand.New(rand.NewSource(16))
	likely := []string{"<a>", "<a>", "<b>", "</a>", "</b>", "<a/>", "<", ">", "/", "a", "b", " b='1'", ` c="2"`, " ", "=", "'", `"`, "&", ";", "#x41;", "&lt;", "&#6", "<!-- -->", "<!--", "-->", "<![CDATA[", "]]>", "x", "\n"}
	wholes := 0
	for range 200000 {
		var b strings.Builder
		if source.Intn(3) > 0 {
			b.WriteString("<a>")
		}
		for range source.Intn(12) {
			if source.Intn(20) == 0 {
				b.WriteByte(byte(source.Intn(256)))
			} else {
				b.WriteString(likely[source.Intn(len(likely))])
			}
		}
		if source.Intn(3) > 0 {
			b.WriteString("</a>")
		}
		s := b.String()
		x, f := xml.Parse(s)
		if want, fault := machineReads(s); f != fault || !equal(x, want) || f.Err != api.OK && !isZero(x) {
			t.Fatalf("Parse(%q) = %+v, %v, not %+v, %v", s, x, f, want, fault)
		}
		if f.Err == api.OK {
			wholes++
		}
	}
	if wholes < 2000 {
		t.Errorf("only %d are read", wholes)
	}
}
