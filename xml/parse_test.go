package xml_test

import (
	"fmt"
	"slices"
	"strings"
	"testing"

	"dovetail/api"
	"dovetail/checks"
	"dovetail/xml"
)

const (
	form  = api.ErrForm
	short = api.ErrShort
	long  = api.ErrLong
	deep  = api.ErrDeep
	twice = api.ErrTwice
	word  = api.ErrWord
	kind  = api.ErrType
)

const (
	blanks    = " \t\n\r"
	digits    = "0123456789"
	letters   = "abcdefghijklmnopqrstuvwxyzABCDEFGHIJKLMNOPQRSTUVWXYZ"
	nameFirst = letters + "_"
	nameBytes = nameFirst + digits + "-.:"
)

// allBytes is each byte, once.
func allBytes() string { return checks.Bytes(0, 255, "") }

func isIn(set string, c byte) bool { return strings.IndexByte(set, c) >= 0 }

// element is an element of a name at a place, with attributes, texts and elements as they come.
func element(name string, at, textAt int, parts ...any) api.Xml {
	x := api.Xml{Name: name, At: at, TextAt: textAt}
	for _, part := range parts {
		switch part := part.(type) {
		case api.Attr:
			x.Attrs = append(x.Attrs, part)
		case string:
			x.Text += part
		case api.Xml:
			x.Kids = append(x.Kids, part)
		default:
			panic("no part of an element")
		}
	}
	return x
}

// plain is an element without places.
func plain(name string, parts ...any) api.Xml { return element(name, 0, 0, parts...) }

func attr(name, value string) api.Attr { return api.Attr{Name: name, Value: value} }

// equal is Same, places and all.
func equal(a, b api.Xml) bool {
	return a.At == b.At && a.TextAt == b.TextAt && a.Name == b.Name && a.Text == b.Text && slices.Equal(a.Attrs, b.Attrs) && slices.EqualFunc(a.Kids, b.Kids, equal)
}

func isZero(x api.Xml) bool {
	return x.Name == "" && x.At == 0 && x.TextAt == 0 && x.Text == "" && x.Attrs == nil && x.Kids == nil
}

// brief is an element in words, as far as they are few.
func brief(x api.Xml) string { return fmt.Sprintf("%.300s", fmt.Sprintf("%+v", x)) }

// reads checks what texts are read as.
func reads(t *testing.T, wanted map[string]api.Xml) {
	t.Helper()
	for s, want := range wanted {
		if x, f := xml.Parse(s); f != (api.Fault{}) || !equal(x, want) {
			t.Errorf("Parse(%.90q) = %s, %v, not %s", s, brief(x), f, brief(want))
		}
	}
}

// faults checks where texts go wrong.
func faults(t *testing.T, wanted map[string]api.Fault) {
	t.Helper()
	for s, want := range wanted {
		if x, f := xml.Parse(s); f != want || !isZero(x) {
			t.Errorf("Parse(%.90q) = %s, %v, not %v", s, brief(x), f, want)
		}
	}
}

// P16.1: the chapter's examples, and others as small.
func TestElements(t *testing.T) {
	reads(t, map[string]api.Xml{
		`<a b="1">x<!-- c -->y<k/>&lt;</a>`: element("a", 0, 9, attr("b", "1"), "xy<", element("k", 21, 23)),
		"<a/>":                              element("a", 0, 2), "<a></a>": element("a", 0, 3), "<a />": element("a", 0, 3), "<a\n\t\r />": element("a", 0, 6), "<a ></a\t>": element("a", 0, 4), "<a></a \r\n >": element("a", 0, 3), "<a>x</a>": element("a", 0, 3, "x"), "<a> </a>": element("a", 0, 3, " "),
		"<a><b/></a>":                           element("a", 0, 7, element("b", 3, 5)),
		"<a><b></b></a>":                        element("a", 0, 10, element("b", 3, 6)),
		"<a><a><a/></a><a/></a>":                element("a", 0, 18, element("a", 3, 10, element("a", 6, 8)), element("a", 14, 16)),
		"<a>1<b>2</b>3<c>4</c>5</a>":            element("a", 0, 3, "135", element("b", 4, 7, "2"), element("c", 13, 16, "4")),
		"<a><b/>1<b/>2</a>":                     element("a", 0, 7, "12", element("b", 3, 5), element("b", 8, 10)),
		" \n<a b = '1'\tc=\"2\"\n/>\r":          element("a", 2, 19, attr("b", "1"), attr("c", "2")),
		"<A.b-c:d_1><_/></A.b-c:d_1>":           element("A.b-c:d_1", 0, 15, element("_", 11, 13)),
		"<a><![CDATA[<b>&amp;]]]]><!--x--></a>": element("a", 0, 12, "<b>&amp;]]"),
	})
	faults(t, map[string]api.Fault{
		"<a>": {Err: short, At: 3}, "<a></b>": {Err: word, At: 5}, "<a b=1/>": {Err: form, At: 5}, "<a>&x;</a>": {Err: form, At: 4}, "<a/><b/>": {Err: form, At: 5}, "<a>&#0;</a>": {Err: kind, At: 3}, "<!DOCTYPE a>": {Err: form, At: 2},
	})
}

// P16.1: nothing, and blanks alone; what stands ahead of the element and behind it.
func TestBeside(t *testing.T) {
	for _, b := range []string{"", " ", "\t", "\n", "\r", "\r\n", " \t\n\r \t", strings.Repeat("\n", 30000), "<!---->", " <!-- <a> --> \n<!--\x00-->\t", "<?xml ?>", "<?xml version='1.0'?>\n<!-- - -->"} {
		faults(t, map[string]api.Fault{b: {Err: short, At: len(b)}, b + "<": {Err: short, At: len(b) + 1}, b + "<!": {Err: short, At: len(b) + 2}, b + "<!-": {Err: short, At: len(b) + 3}, b + "<!-->": {Err: short, At: len(b) + 5}})
		for c := range 256 {
			s := string([]byte{byte(c)})
			if !isIn(blanks+"<", byte(c)) {
				faults(t, map[string]api.Fault{b + s: {Err: form, At: len(b)}, b + s + "<a/>": {Err: form, At: len(b)}})
			}
			if !isIn(nameFirst+"!", byte(c)) && (s != "?" || b != "") {
				faults(t, map[string]api.Fault{b + "<" + s: {Err: form, At: len(b) + 1}, b + "<" + s + "a/>": {Err: form, At: len(b) + 1}})
			}
			if s != "-" {
				faults(t, map[string]api.Fault{b + "<!" + s: {Err: form, At: len(b) + 2}, b + "<!-" + s: {Err: form, At: len(b) + 3}})
			}
		}
		reads(t, map[string]api.Xml{b + "<a/>": element("a", len(b), len(b)+2), b + "<a>x</a>": element("a", len(b), len(b)+3, "x")})
		if strings.HasPrefix(b, "<?") {
			continue
		}
		whole := "<a>x</a>" + b
		end := len(whole)
		reads(t, map[string]api.Xml{whole: element("a", 0, 3, "x"), b + whole: element("a", len(b), len(b)+3, "x")})
		faults(t, map[string]api.Fault{whole + "<": {Err: short, At: end + 1}, whole + "<!": {Err: short, At: end + 2}, whole + "<!-": {Err: short, At: end + 3}, whole + "<!--": {Err: short, At: end + 4}, whole + "<!---": {Err: short, At: end + 5}, whole + "<!-->": {Err: short, At: end + 5}})
		for c := range 256 {
			s := string([]byte{byte(c)})
			if !isIn(blanks+"<", byte(c)) {
				faults(t, map[string]api.Fault{whole + s: {Err: form, At: end}, whole + s + " ": {Err: form, At: end}})
			}
			if s != "!" {
				faults(t, map[string]api.Fault{whole + "<" + s: {Err: form, At: end + 1}, whole + "<" + s + "/>": {Err: form, At: end + 1}})
			}
			if s != "-" {
				faults(t, map[string]api.Fault{whole + "<!" + s: {Err: form, At: end + 2}, whole + "<!-" + s: {Err: form, At: end + 3}})
			}
		}
	}
	faults(t, map[string]api.Fault{"<![CDATA[x]]>": {Err: form, At: 2}, "<a/><![CDATA[]]>": {Err: form, At: 6}, "</a>": {Err: form, At: 1}, "<a></a></a>": {Err: form, At: 8}, "x<a/>": {Err: form, At: 0}, "<a/>&lt;": {Err: form, At: 4}, "&#32;<a/>": {Err: form, At: 0}, "<a/></a>": {Err: form, At: 5}, "\xef\xbb\xbf<a/>": {Err: form, At: 0}, "<a/>\x00": {Err: form, At: 4}, "\x00<a/>": {Err: form, At: 0}, "< a/>": {Err: form, At: 1}, "<1/>": {Err: form, At: 1}, "<-a/>": {Err: form, At: 1}, "<.a/>": {Err: form, At: 1}, "<:a/>": {Err: form, At: 1}, "<é/>": {Err: form, At: 1}})
}

// P16.1: the first line.
func TestHeader(t *testing.T) {
	for _, header := range []string{"<?xml ?>", "<?xml\t?>", "<?xml\n?>", "<?xml\r?>", `<?xml version="1.0" encoding="UTF-8"?>`, "<?xml  ?>", "<?xml ??>", "<?xml ?\n>?>", "<?xml >?>", "<?xml <a></b>&x;?>", "<?xml <?xml ?>", "<?xml <!-- ?>", "<?xml \x00\xff?>", "<?xml " + strings.Repeat("?x", 9000) + "?>"} {
		n := len(header)
		reads(t, map[string]api.Xml{header + "<a/>": element("a", n, n+2), header + "\n <a/>": element("a", n+2, n+4), header + "<!--?>--><a/> ": element("a", n+9, n+11)})
		// Up to the first ?>, and once.
		faults(t, map[string]api.Fault{header + "?><a/>": {Err: form, At: n}, header + header + "<a/>": {Err: form, At: n + 1}, header + " <?xml ?><a/>": {Err: form, At: n + 2}, header: {Err: short, At: n}, header + "<?": {Err: form, At: n + 1}})
		for end := range header {
			faults(t, map[string]api.Fault{header[:end]: {Err: short, At: end}})
		}
		// Only right at the beginning.
		for ahead, at := range map[string]int{" ": 2, "\n": 2, "<!---->": 8, "\ufeff": 0} {
			faults(t, map[string]api.Fault{ahead + header + "<a/>": {Err: form, At: at}})
		}
		faults(t, map[string]api.Fault{"<a/>" + header: {Err: form, At: 5}, "<a>" + header + "</a>": {Err: form, At: 4}})
	}
	const start = "<?xml "
	for at := 1; at < len(start); at++ {
		for c := range 256 {
			b := string([]byte{byte(c)})
			if b == start[at:at+1] || at == 1 && isIn(nameFirst+"!", byte(c)) || at == 5 && isIn(blanks, byte(c)) {
				continue
			}
			faults(t, map[string]api.Fault{start[:at] + b: {Err: form, At: at}, start[:at] + b + start[at:] + "?><a/>": {Err: form, At: at}})
		}
	}
	faults(t, map[string]api.Fault{"<?XML ?><a/>": {Err: form, At: 2}, "<?xml?><a/>": {Err: form, At: 5}, "<?xmlx ?><a/>": {Err: form, At: 5}, "<?xml-stylesheet ?><a/>": {Err: form, At: 5}, "<? xml ?><a/>": {Err: form, At: 2}, "<?php ?><a/>": {Err: form, At: 2}, "<?xml >": {Err: short, At: 7}, "<?xml ?": {Err: short, At: 7}, "<?xml ? >": {Err: short, At: 9}})
}

// comments is comments of all kinds, and their ends.
func comments() []string {
	return []string{"<!---->", "<!-- c -->", "<!----->", "<!-- -- -->", "<!-->-->", "<!--->-->", "<!-- - -> ->-->", "<!--<a>-->", "<!--</a>-->", "<!--<!---->", "<!--]]>-->", "<!--&x;&#0;-->", "<!--?><?xml -->", "<!--\x00\xff\"'-->", "<!--\n\n-->", "<!--" + strings.Repeat("-", 9000) + "-->"}
}

// P16.1 and P16.10: comments at each place, cut off, and with another byte.
func TestComments(t *testing.T) {
	for _, c := range comments() {
		n := len(c)
		reads(t, map[string]api.Xml{
			c + "<a/>": element("a", n, n+2), "<a/>" + c: element("a", 0, 2), c + " " + c + "<a/>" + c + "\n" + c: element("a", 2*n+1, 2*n+3),
			"<a>" + c + "</a>": element("a", 0, 3+n), "<a>" + c + "x</a>": element("a", 0, 3+n, "x"), "<a>x" + c + "</a>": element("a", 0, 3, "x"), "<a>x" + c + "y" + c + "z</a>": element("a", 0, 3, "xyz"), "<a>" + c + "&lt;" + c + "</a>": element("a", 0, 3+n, "<"), "<a>" + c + c + "<![CDATA[x]]></a>": element("a", 0, 3+2*n+9, "x"), "<a>" + c + "<b/>" + c + "</a>": element("a", 0, 7+2*n, element("b", 3+n, 5+n)), "<a><b>" + c + "</b></a>": element("a", 0, 10+n, element("b", 3, 6+n)),
			// Within CDATA and values they are bytes.
			"<a><![CDATA[" + strings.ReplaceAll(c, "]]>", "") + "]]></a>": element("a", 0, 12, strings.ReplaceAll(c, "]]>", "")),
		})
		faults(t, map[string]api.Fault{c: {Err: short, At: n}, "<a/>" + c + "<b/>": {Err: form, At: 5 + n}, "<a>" + c: {Err: short, At: 3 + n}, "<a" + c + "/>": {Err: form, At: 2}, "<a " + c + "/>": {Err: form, At: 3}, `<a b="` + c + `"/>`: {Err: form, At: 6}, "<a></a" + c + ">": {Err: form, At: 6}, "<a></" + c + "a>": {Err: word, At: 5}, "<a>&l" + c + "t;</a>": {Err: form, At: 5}, "<" + c + "a/>": {Err: form, At: 1}})
		for end := range n {
			for _, ahead := range []string{"", "<a/>", "<a>", "<a>x<b/>"} {
				if s := ahead + c[:end]; s != "<a/>" {
					faults(t, map[string]api.Fault{s: {Err: short, At: len(s)}})
				}
			}
		}
	}
	// The first --> ends one.
	faults(t, map[string]api.Fault{"<!-- --> --><a/>": {Err: form, At: 9}, "<a/><!---->-->": {Err: form, At: 11}, "<!-- -- ><a/>": {Err: short, At: 13}, "<!- -><a/>": {Err: form, At: 3}, "<a><!-></a>": {Err: form, At: 6}, "<a><!></a>": {Err: form, At: 5}, "<a><! ></a>": {Err: form, At: 5}, "<a><!DOCTYPE></a>": {Err: form, At: 5}, "<a><!--></a>": {Err: short, At: 12}, "<a><!---></a>": {Err: short, At: 13}, "<a><?x?></a>": {Err: form, At: 4}})
	reads(t, map[string]api.Xml{"<a><!---->--></a>": element("a", 0, 10, "-->"), "<a>--></a>": element("a", 0, 3, "-->"), "<a>!--</a>": element("a", 0, 3, "!--")})
	for at, ahead := range []string{"<a><!", "<a><!-"} {
		for c := range 256 {
			if !isIn("-[", byte(c)) || at > 0 && c == '[' {
				s := ahead + string([]byte{byte(c)})
				faults(t, map[string]api.Fault{s: {Err: form, At: 5 + at}, s + "-x--></a>": {Err: form, At: 5 + at}})
			}
		}
	}
}

// P16.1: a text's bytes.
func TestLength(t *testing.T) {
	const most = 65536
	xs, spaces := strings.Repeat("x", most), strings.Repeat(" ", most)
	many := element("a", 0, most-5)
	for at := 3; at < most-8; at += 4 {
		many.Kids = append(many.Kids, element("b", at, at+2))
	}
	many.TextAt = 3 + 4*len(many.Kids)
	reads(t, map[string]api.Xml{
		"<a/>" + spaces[4:]: element("a", 0, 2), spaces[4:] + "<a/>": element("a", most-4, most-2), "<a>" + xs[7:] + "</a>": element("a", 0, 3, xs[7:]), "<a" + spaces[4:] + "/>": element("a", 0, most-2), `<a b="` + xs[9:] + `"/>`: element("a", 0, most-2, attr("b", xs[9:])), "<!--" + xs[11:] + "--><a/>": element("a", most-4, most-2), "<?xml " + xs[12:] + "?><a/>": element("a", most-4, most-2), "<a><![CDATA[" + xs[19:] + "]]></a>": element("a", 0, 12, xs[19:]), "<a></a" + spaces[7:] + ">": element("a", 0, 3),
		"<a>" + strings.Repeat("<b/>", len(many.Kids)) + "</a>": many,
	})
	tooLong := api.Fault{Err: long, At: most}
	for _, s := range []string{
		"<a/>" + spaces[3:], spaces[3:] + "<a/>", "<a>" + xs[6:] + "</a>", spaces + " ", "<a>" + xs, xs + xs, "<!--" + xs,
		// What is wrong ahead is not looked for.
		"!" + spaces, "<a></b>" + spaces, "<a b='' b=''/>" + spaces, "<a>&#0;</a>" + spaces, "<" + xs, strings.Repeat("<a>", 30000), "\x00" + xs, "<a/><b/>" + spaces,
	} {
		faults(t, map[string]api.Fault{s: tooLong})
	}
	faults(t, map[string]api.Fault{
		spaces: {Err: short, At: most}, "<a>" + xs[3:]: {Err: short, At: most}, "<!--" + xs[4:]: {Err: short, At: most}, "<a>" + xs[6:] + "</a": {Err: short, At: most}, "<a/>" + spaces[5:] + "<": {Err: short, At: most}, "<a/>" + spaces[5:] + "!": {Err: form, At: most - 1}, "!" + spaces[1:]: {Err: form, At: 0}, "<a>" + xs[7:] + "</b>": {Err: word, At: most - 2}, "<a>" + xs[4:] + "&": {Err: short, At: most},
		"<a>" + xs[7:] + "&#0;": {Err: kind, At: most - 4}, "<" + xs[1:]: {Err: long, At: 49},
	})
}
