package xml_test

import (
	"fmt"
	"slices"
	"strings"
	"testing"
	"unicode/utf8"

	"dovetail/api"
	"dovetail/xml"
)

// P16.1: each byte of text.
func TestBytes(t *testing.T) {
	for c := range 256 {
		b := string([]byte{byte(c)})
		switch b {
		case "<":
			faults(t, map[string]api.Fault{"<a><": {Err: short, At: 4}, "<a><<": {Err: form, At: 4}, "<a>x<<": {Err: form, At: 5}, "<a>< </a>": {Err: form, At: 4}})
		case "&":
			faults(t, map[string]api.Fault{"<a>&": {Err: short, At: 4}, "<a>&&": {Err: form, At: 4}, "<a>&</a>": {Err: form, At: 4}, "<a>x& y</a>": {Err: form, At: 5}})
		default:
			reads(t, map[string]api.Xml{"<a>" + b + "</a>": element("a", 0, 3, b), "<a>x" + b + b + "y</a>": element("a", 0, 3, "x"+b+b+"y"), "<a><b/>" + b + "<b/>" + b + "</a>": element("a", 0, 7, b+b, element("b", 3, 5), element("b", 8, 10)), "<a><![CDATA[" + b + "]]></a>": element("a", 0, 12, b)})
			faults(t, map[string]api.Fault{"<a>" + b: {Err: short, At: 4}, "<a>" + b + "<": {Err: short, At: 5}, "<a>" + b + "</b>": {Err: word, At: 6}})
		}
	}
	all := "\x7f\x80\xff\xc3\xa9\xed\xa0\x80\xf4\x90\x80\x80\u2028\ufeff/ '\"`=>]]>--> ?> lt; #x41;"
	reads(t, map[string]api.Xml{"<a>" + all + "</a>": element("a", 0, 3, all), "<a>\r\n\r\n</a>": element("a", 0, 3, "\r\n\r\n"), "<a> x </a>": element("a", 0, 3, " x "), "<a>]]></a>": element("a", 0, 3, "]]>")})
}

// P16.1: where the first of an element's text stands.
func TestTextAt(t *testing.T) {
	reads(t, map[string]api.Xml{
		"<a></a>": element("a", 0, 3), "<a b='1'></a>": element("a", 0, 9, attr("b", "1")), "<a/>": element("a", 0, 2), "<a />": element("a", 0, 3), "<a b='1'/>": element("a", 0, 8, attr("b", "1")), "<a b='1'  />": element("a", 0, 10, attr("b", "1")), "<a ></a>": element("a", 0, 4),
		"<a>x</a>": element("a", 0, 3, "x"), "<a><b/></a>": element("a", 0, 7, element("b", 3, 5)), "<a><b/>x</a>": element("a", 0, 7, "x", element("b", 3, 5)), "<a>x<b/>y</a>": element("a", 0, 3, "xy", element("b", 4, 6)), "<a><b>x</b></a>": element("a", 0, 11, element("b", 3, 6, "x")), "<a><b>x</b>y</a>": element("a", 0, 11, "y", element("b", 3, 6, "x")), "<a> <b/></a>": element("a", 0, 3, " ", element("b", 4, 6)), "<a><b/>\n</a>": element("a", 0, 7, "\n", element("b", 3, 5)),
		"<a>&lt;</a>": element("a", 0, 3, "<"), "<a>&#65;x</a>": element("a", 0, 3, "Ax"), "<a>x&lt;</a>": element("a", 0, 3, "x<"), "<a><b/>&amp;</a>": element("a", 0, 7, "&", element("b", 3, 5)), "<a><!----></a>": element("a", 0, 10), "<a><!---->x</a>": element("a", 0, 10, "x"), "<a><!----><!---->&#x41;</a>": element("a", 0, 17, "A"), "<a>x<!----></a>": element("a", 0, 3, "x"), "<a><!----><b/></a>": element("a", 0, 14, element("b", 10, 12)),
		"<a><![CDATA[x]]></a>": element("a", 0, 12, "x"), "<a>y<![CDATA[x]]></a>": element("a", 0, 3, "yx"), "<a><![CDATA[x]]>y</a>": element("a", 0, 12, "xy"), "<a><!----><![CDATA[x]]></a>": element("a", 0, 19, "x"), "<a><b/><![CDATA[ ]]></a>": element("a", 0, 16, " ", element("b", 3, 5)), "<a><![CDATA[x]]><![CDATA[y]]></a>": element("a", 0, 12, "xy"),
		// CDATA without bytes is there all the same.
		"<a><![CDATA[]]></a>": element("a", 0, 12), "<a><![CDATA[]]>x</a>": element("a", 0, 12, "x"), "<a>x<![CDATA[]]></a>": element("a", 0, 3, "x"), "<a><b><![CDATA[]]></b></a>": element("a", 0, 22, element("b", 3, 15)),
	})
}

// P16.1: CDATA, and where it is cut off.
func TestCdata(t *testing.T) {
	for _, said := range []string{"", "x", "]", "]]", "]]]", "]>", "]] >", "] ]>", "<b>", "</a>", "<!-- -->", "<![CDATA[", "&lt;&#0;&x", "\x00\xff\"'", " \n ", "a]]b]]c", strings.Repeat("]", 9000), ">", ">]]"} {
		s := "<![CDATA[" + said + "]]>"
		n := len(s)
		reads(t, map[string]api.Xml{"<a>" + s + "</a>": element("a", 0, 12, said), "<a>" + s + s + "</a>": element("a", 0, 12, said, said), "<a>x" + s + "y</a>": element("a", 0, 3, "x"+said+"y"), "<a><b/>" + s + "<b/>" + s + "</a>": element("a", 0, 16, said, said, element("b", 3, 5), element("b", 7+n, 9+n)), "<a>" + s + "]]></a>": element("a", 0, 12, said+"]]>"), "<a>" + s + "&lt;<!-- -->" + s + "</a>": element("a", 0, 12, said+"<"+said)})
		faults(t, map[string]api.Fault{s + "<a/>": {Err: form, At: 2}, "<a/>" + s: {Err: form, At: 6}, "<a>" + s: {Err: short, At: 3 + n}, "<a>" + s + "</b>": {Err: word, At: 5 + n}, "<a " + s + "/>": {Err: form, At: 3}, "<a b='" + s + "'/>": {Err: form, At: 6}})
		for end := range n {
			for _, ahead := range []string{"<a>", "<a>x", "<a><b/>", "<a><b>", "<a>" + s} {
				faults(t, map[string]api.Fault{ahead + s[:end]: {Err: short, At: len(ahead) + end}})
			}
		}
	}
	const start = "<a><![CDATA["
	for at := 6; at < len(start); at++ {
		for c := range 256 {
			if b := string([]byte{byte(c)}); b != start[at:at+1] {
				faults(t, map[string]api.Fault{start[:at] + b: {Err: form, At: at}, start[:at] + b + start[at:] + "]]></a>": {Err: form, At: at}})
			}
		}
	}
	faults(t, map[string]api.Fault{"<a><![cdata[x]]></a>": {Err: form, At: 6}, "<a><![CDATA [x]]></a>": {Err: form, At: 11}, "<a><! [CDATA[x]]></a>": {Err: form, At: 5}, "<a><[CDATA[x]]></a>": {Err: form, At: 4}, "<a><![CDATA[x]] ></a>": {Err: short, At: 21}, "<a><![CDATA[x]></a>": {Err: short, At: 19}, "<a><![CDATA[<![CDATA[x]]>]]></a></a>": {Err: form, At: 33}})
}

// names is the bytes that have names.
func names() map[string]string {
	return map[string]string{"lt": "<", "gt": ">", "amp": "&", "quot": `"`, "apos": "'"}
}

// P16.1: references by names, cut off, and with another byte.
func TestNamed(t *testing.T) {
	goesOn := func(s string) bool {
		for name := range names() {
			if strings.HasPrefix(name+";", s) {
				return true
			}
		}
		return s == "#"
	}
	for name, said := range names() {
		s := "&" + name + ";"
		n := len(s)
		reads(t, map[string]api.Xml{
			"<a>" + s + "</a>": element("a", 0, 3, said), "<a>x" + s + "y</a>": element("a", 0, 3, "x"+said+"y"), "<a>" + s + s + "</a>": element("a", 0, 3, said+said), "<a><b/>" + s + "</a>": element("a", 0, 7, said, element("b", 3, 5)), "<a b='" + s + "'/>": element("a", 0, 7+n, attr("b", said)), `<a b="x` + s + "y" + s + `"/>`: element("a", 0, 9+2*n, attr("b", "x"+said+"y"+said)), "<a>" + s + ";</a>": element("a", 0, 3, said+";"),
			// What is said is not read again.
			"<a>&amp;" + s[1:] + "</a>": element("a", 0, 3, s), "<a b='&#38;" + s[1:] + "'/>": element("a", 0, 11+n, attr("b", s)), "<a><![CDATA[" + s + "]]></a>": element("a", 0, 12, s),
		})
		faults(t, map[string]api.Fault{s + "<a/>": {Err: form, At: 0}, "<a/>" + s: {Err: form, At: 4}, "<a " + s + "=''/>": {Err: form, At: 3}, "<" + s + "/>": {Err: form, At: 1}})
		for end := 1; end < n; end++ {
			for _, ahead := range []string{"<a>", "<a>x", `<a b="`, "<a b='x"} {
				faults(t, map[string]api.Fault{ahead + s[:end]: {Err: short, At: len(ahead) + end}})
				for c := range 256 {
					b := string([]byte{byte(c)})
					if !goesOn(s[1:end] + b) {
						faults(t, map[string]api.Fault{ahead + s[:end] + b: {Err: form, At: len(ahead) + end}, ahead + s[:end] + b + s[end:]: {Err: form, At: len(ahead) + end}})
					}
				}
			}
		}
	}
	faults(t, map[string]api.Fault{"<a>&LT;</a>": {Err: form, At: 4}, "<a>&Lt;</a>": {Err: form, At: 4}, "<a>&nbsp;</a>": {Err: form, At: 4}, "<a>&lt </a>": {Err: form, At: 6}, "<a>&;</a>": {Err: form, At: 4}, "<a>& lt;</a>": {Err: form, At: 4}, "<a>&ltt;</a>": {Err: form, At: 6}, "<a>&ap;</a>": {Err: form, At: 6}, "<a>&amps;</a>": {Err: form, At: 7}, "<a>&apo;</a>": {Err: form, At: 7}, "<a>&aamp;</a>": {Err: form, At: 5}, "<a>&gt<": {Err: form, At: 6}, "<a>&quo<!-- -->t;</a>": {Err: form, At: 7}})
}

// P16.1: references to numbers, all of them that may be.
func TestNumbers(t *testing.T) {
	for n := 1; n <= 0x110000+100; n++ {
		// All ends and beginnings, and some between.
		if n > 0x3000 && n%97 > 0 && n&0x7ff > 2 && n&0x7ff < 0x7fd {
			continue
		}
		for _, s := range []string{fmt.Sprintf("<a>&#%d;</a>", n), fmt.Sprintf("<a>&#x%x;</a>", n), fmt.Sprintf("<a>&#x%X;</a>", n), fmt.Sprintf("<a>&#%08d;</a>", n), fmt.Sprintf("<a>&#x%08x;</a>", n)} {
			x, f := xml.Parse(s)
			if mayBe := n <= 0x10ffff && (n < 0xd800 || n > 0xdfff); mayBe && (f != (api.Fault{}) || !equal(x, element("a", 0, 3, string(rune(n))))) || !mayBe && (f != (api.Fault{Err: kind, At: 3}) || !isZero(x)) {
				t.Fatalf("Parse(%q) = %s, %v", s, brief(x), f)
			}
		}
	}
	for s, said := range map[string]string{
		"&#1;": "\x01", "&#x1;": "\x01", "&#127;": "\x7f", "&#x7f;": "\x7f", "&#128;": "\xc2\x80", "&#x7FF;": "\xdf\xbf", "&#x800;": "\xe0\xa0\x80", "&#xd7ff;": "\xed\x9f\xbf", "&#55295;": "\xed\x9f\xbf", "&#xe000;": "\xee\x80\x80", "&#57344;": "\xee\x80\x80", "&#xFffF;": "\xef\xbf\xbf", "&#65536;": "\xf0\x90\x80\x80", "&#x10ffff;": "\xf4\x8f\xbf\xbf", "&#1114111;": "\xf4\x8f\xbf\xbf", "&#xfffd;": "\xef\xbf\xbd", "&#00000001;": "\x01", "&#x00000001;": "\x01", "&#01114111;": "\xf4\x8f\xbf\xbf", "&#x0010FFFF;": "\xf4\x8f\xbf\xbf", "&#60;&#x3c;&#38;": "<<&", "&#x26;lt;": "&lt;", "&#49;0;": "10;", "&#xaF;&#xAf;": "\u00af\u00af", "&#9;&#10;&#13;&#32;": "\t\n\r ",
	} {
		n := len(s)
		reads(t, map[string]api.Xml{"<a>" + s + "</a>": element("a", 0, 3, said), "<a>x" + s + "y</a>": element("a", 0, 3, "x"+said+"y"), "<a b='" + s + "'/>": element("a", 0, 7+n, attr("b", said)), `<a b="` + s + s + `"></a>`: element("a", 0, 8+2*n, attr("b", said+said))})
		if !utf8.ValidString(said) {
			t.Errorf("%q is no UTF-8", said)
		}
	}
}

// P16.1: numbers that may not be, and those with too many digits; where each of these is told.
func TestWrongNumbers(t *testing.T) {
	for _, s := range []string{"&#0", "&#x0", "&#00", "&#00000000", "&#x00000000", "&#xd800", "&#xDFFF", "&#55296", "&#57343", "&#xdbff", "&#xdc00", "&#0055296", "&#x0000d800", "&#1114112", "&#x110000", "&#99999999", "&#xffffffff", "&#x80000041", "&#x7fffffff", "&#x80000000", "&#01114112", "&#x00110000", "&#x10000041", "&#xFFFFFFFF"} {
		for _, ahead := range []string{"<a>", "<a>x&lt;", "<a b='", `<a b="x`, "<a><b/>"} {
			n := len(ahead)
			// Only the ; tells.
			faults(t, map[string]api.Fault{ahead + s: {Err: short, At: n + len(s)}, ahead + s + ";": {Err: kind, At: n}, ahead + s + ";!<": {Err: kind, At: n}, ahead + s + "g": {Err: form, At: n + len(s)}, ahead + s + " ;": {Err: form, At: n + len(s)}, ahead + s + "<": {Err: form, At: n + len(s)}, ahead + s + "&": {Err: form, At: n + len(s)}})
		}
	}
	for _, s := range []string{"&#000000065", "&#123456789", "&#999999999", "&#000000000", "&#x000000041", "&#xd80000000", "&#x123456789", "&#xABCDEFabc"} {
		for _, ahead := range []string{"<a>", "<a>x", "<a b='", `<a b="x`} {
			n := len(ahead)
			// The ninth digit tells, whatever stands behind it.
			faults(t, map[string]api.Fault{ahead + s: {Err: kind, At: n}, ahead + s + ";": {Err: kind, At: n}, ahead + s + "0": {Err: kind, At: n}, ahead + s + "g": {Err: kind, At: n}, ahead + s[:len(s)-1]: {Err: short, At: n + len(s) - 1}, ahead + s[:len(s)-1] + "g": {Err: form, At: n + len(s) - 1}, ahead + s[:len(s)-1] + ":": {Err: form, At: n + len(s) - 1}})
		}
	}
	for c := range 256 {
		b := string([]byte{byte(c)})
		if !isIn(digits+"x", byte(c)) {
			faults(t, map[string]api.Fault{"<a>&#" + b: {Err: form, At: 5}, "<a>&#" + b + "65;": {Err: form, At: 5}})
		}
		if !isIn(digits+";", byte(c)) {
			faults(t, map[string]api.Fault{"<a>&#6" + b: {Err: form, At: 6}, "<a>&#6" + b + "5;": {Err: form, At: 6}, "<a>&#12345678" + b: {Err: form, At: 13}})
		}
		if !isIn(digits+"abcdefABCDEF", byte(c)) {
			faults(t, map[string]api.Fault{"<a>&#x" + b: {Err: form, At: 6}, "<a>&#x" + b + "4;": {Err: form, At: 6}})
			if c != ';' {
				faults(t, map[string]api.Fault{"<a>&#x4" + b: {Err: form, At: 7}, "<a>&#x4" + b + "1;": {Err: form, At: 7}, "<a>&#x1234567f" + b: {Err: form, At: 14}})
			}
		}
	}
	faults(t, map[string]api.Fault{"<a>&#": {Err: short, At: 5}, "<a>&#x": {Err: short, At: 6}, "<a>&#;": {Err: form, At: 5}, "<a>&#x;": {Err: form, At: 6}, "<a>&#X41;": {Err: form, At: 5}, "<a>&# 65;": {Err: form, At: 5}, "<a>&#-1;": {Err: form, At: 5}, "<a>&#+65;": {Err: form, At: 5}, "<a>&#1_0;": {Err: form, At: 6}, "<a>&#0x41;": {Err: form, At: 6}, "<a>&#6 5;": {Err: form, At: 6}, "<a>&#xx41;": {Err: form, At: 6}, "<a>&x41;": {Err: form, At: 4}, "<a>&#\u0661;": {Err: form, At: 5}, "<a>&#65\x00": {Err: form, At: 7}})
}

// P16.3 and P16.11
func TestEscape(t *testing.T) {
	for s, want := range map[string]string{"": "", "a": "a", "<": "&lt;", ">": "&gt;", "&": "&amp;", `"`: "&quot;", "'": "&apos;", `<>&"'`: "&lt;&gt;&amp;&quot;&apos;", "&lt;": "&amp;lt;", "&amp;amp;": "&amp;amp;amp;", "&#65;": "&amp;#65;", "]]>": "]]&gt;", "<!-- c -->": "&lt;!-- c --&gt;", "<a b='1'/>": "&lt;a b=&apos;1&apos;/&gt;", "é\u2028\x00\xff\xc3": "é\u2028\x00\xff\xc3", " \t\n\r": " \t\n\r", "a<b": "a&lt;b", "`;#": "`;#", "\U0001f600&": "\U0001f600&amp;"} {
		if got := xml.Escape(s); got != want {
			t.Errorf("Escape(%q) = %q, not %q", s, got, want)
		}
	}
	said := names()
	for c := range 256 {
		b := string([]byte{byte(c)})
		want := b
		for name, byName := range said {
			if b == byName {
				want = "&" + name + ";"
			}
		}
		if got := xml.Escape(b); got != want {
			t.Errorf("Escape(%q) = %q", b, got)
		}
		if got := xml.Escape("x" + b + b + "y"); got != "x"+want+want+"y" {
			t.Errorf("Escape of %q twice: %q", b, got)
		}
	}
	reversed := []byte(allBytes())
	slices.Reverse(reversed)
	for _, s := range []string{"", allBytes(), string(reversed), strings.Repeat(allBytes(), 40), "&lt;&#65;", "]]>", "<!--", "  "} {
		escapedSays(t, s)
	}
	if s := strings.Repeat("x<", 1<<16); xml.Escape(s) != strings.Repeat("x&lt;", 1<<16) {
		t.Error("Escape of many bytes")
	}
}

// escapedSays checks that a text, escaped, says what it was made of, wherever it stands.
func escapedSays(t *testing.T, s string) {
	t.Helper()
	e := xml.Escape(s)
	if strings.ContainsAny(e, `<>"'`) {
		t.Errorf("Escape(%q) = %q", s, e)
	}
	n := len(e)
	reads(t, map[string]api.Xml{"<a>" + e + "</a>": element("a", 0, 3, s), "<a b='" + e + "'/>": element("a", 0, 7+n, attr("b", s)), `<a b="` + e + `"/>`: element("a", 0, 7+n, attr("b", s)), "<a>" + e + "<b/>" + e + "</a>": element("a", 0, 3+textAhead(s), s+s, element("b", 3+n, 5+n))})
}

// textAhead is how far behind "<a>" the first text stands, if the one ahead of "<b/>" is that.
func textAhead(s string) int {
	if s == "" {
		return len("<b/>")
	}
	return 0
}
