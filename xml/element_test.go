package xml_test

import (
	"fmt"
	"strings"
	"testing"

	"dovetail/api"
	"dovetail/xml"
)

// P16.1: a name's bytes, as an element's and as an attribute's.
func TestNameBytes(t *testing.T) {
	for c := range 256 {
		b := string([]byte{byte(c)})
		if isIn(nameFirst, byte(c)) {
			reads(t, map[string]api.Xml{"<" + b + "/>": element(b, 0, 2), "<" + b + "></" + b + ">": element(b, 0, 3), "<a " + b + "=''/>": element("a", 0, 7, attr(b, ""))})
			faults(t, map[string]api.Fault{"<" + b: {Err: short, At: 2}, "<a " + b: {Err: short, At: 4}})
		} else {
			if !isIn("!?", byte(c)) {
				faults(t, map[string]api.Fault{"<" + b: {Err: form, At: 1}, "<" + b + "a/>": {Err: form, At: 1}})
			}
			if !isIn("!/", byte(c)) {
				faults(t, map[string]api.Fault{"<a><" + b: {Err: form, At: 4}, "<a><" + b + "a/></a>": {Err: form, At: 4}})
			}
			if !isIn(blanks+"/>", byte(c)) {
				faults(t, map[string]api.Fault{"<a " + b: {Err: form, At: 3}, "<a " + b + "b=''/>": {Err: form, At: 3}, "<a b='' " + b + "c=''/>": {Err: form, At: 8}})
			}
		}
		if isIn(nameBytes, byte(c)) {
			reads(t, map[string]api.Xml{"<a" + b + "/>": element("a"+b, 0, 3), "<_" + b + b + "></_" + b + b + ">": element("_"+b+b, 0, 5), "<a b" + b + "=''/>": element("a", 0, 8, attr("b"+b, ""))})
			continue
		}
		if !isIn(blanks+"/>", byte(c)) {
			faults(t, map[string]api.Fault{"<a" + b: {Err: form, At: 2}, "<a" + b + "/>": {Err: form, At: 2}, "<a" + b + " />": {Err: form, At: 2}, "<a " + b + ">": {Err: form, At: 3}})
		}
		if !isIn(blanks+"=", byte(c)) {
			faults(t, map[string]api.Fault{"<a b" + b: {Err: form, At: 4}, "<a b" + b + "=''/>": {Err: form, At: 4}, "<a b " + b + "=''/>": {Err: form, At: 5}})
		}
	}
	faults(t, map[string]api.Fault{"<é/>": {Err: form, At: 1}, "<aé/>": {Err: form, At: 2}, "<a é=''/>": {Err: form, At: 3}, "<a b\xc3\xa9=''/>": {Err: form, At: 4}, "<a\x00/>": {Err: form, At: 2}, "<>": {Err: form, At: 1}, "</>": {Err: form, At: 1}, "<a><></a>": {Err: form, At: 4}, "<a =''/>": {Err: form, At: 3}})
}

// nameOf is a name of so many bytes.
func nameOf(first byte, length int) string {
	l := []byte{first}
	for i := range length - 1 {
		l = append(l, "aZ0-9_.:z"[i%9])
	}
	return string(l)
}

// P16.1: how long names are.
func TestNameLength(t *testing.T) {
	for length := 1; length < 60; length++ {
		for _, first := range []byte("aZ_") {
			name := nameOf(first, length)
			n := min(length, 48)
			if length <= 48 {
				reads(t, map[string]api.Xml{"<" + name + "/>": element(name, 0, 1+n), "<" + name + ">x</" + name + ">": element(name, 0, 2+n, "x"), "<a " + name + "='1'/>": element("a", 0, 7+n, attr(name, "1"))})
				faults(t, map[string]api.Fault{"<" + name: {Err: short, At: 1 + n}, "<a " + name: {Err: short, At: 3 + n}, "<" + name + "!": {Err: form, At: 1 + n}, "<a " + name + "!": {Err: form, At: 3 + n}, "<a><" + name: {Err: short, At: 4 + n}})
				continue
			}
			for _, s := range []string{"<" + name + "/>", "<" + name, "<" + name + "></" + name + ">", "<" + name + "!", "<" + name[:49], "<" + name[:49] + "="} {
				faults(t, map[string]api.Fault{s: {Err: long, At: 49}, " <!-- -->" + s: {Err: long, At: 58}, "<a>" + s: {Err: long, At: 52}})
			}
			for _, s := range []string{"<a " + name + "=''/>", "<a " + name, "<a " + name + "!", "<a " + name[:49]} {
				faults(t, map[string]api.Fault{s: {Err: long, At: 51}, "<a b=''" + s[2:]: {Err: long, At: 56}})
			}
		}
	}
	// The 49th byte alone is a name's, and no other.
	name := nameOf('n', 48)
	for c := range 256 {
		b := string([]byte{byte(c)})
		if isIn(nameBytes, byte(c)) {
			faults(t, map[string]api.Fault{"<" + name + b: {Err: long, At: 49}, "<a " + name + b: {Err: long, At: 51}})
		} else if !isIn(blanks+"/>=", byte(c)) {
			faults(t, map[string]api.Fault{"<" + name + b: {Err: form, At: 49}, "<a " + name + b: {Err: form, At: 51}})
		}
	}
}

// P16.1: an element's end.
func TestEnds(t *testing.T) {
	for _, name := range []string{"a", "ab", "aba", "_.:-", nameOf('n', 47), nameOf('N', 48)} {
		open := "<" + name + ">"
		n := len(open) + 2
		for _, blank := range []string{"", " ", "\t\n\r ", strings.Repeat(" ", 1000)} {
			reads(t, map[string]api.Xml{open + "</" + name + blank + ">": element(name, 0, len(open)), open + "x</" + name + blank + "> \n": element(name, 0, len(open), "x")})
			faults(t, map[string]api.Fault{open + "</" + name + blank: {Err: short, At: n + len(name) + len(blank)}})
			for c := range 256 {
				b := string([]byte{byte(c)})
				s := open + "</" + name + blank + b
				switch {
				case isIn(blanks+">", byte(c)):
				case blank == "" && isIn(nameBytes, byte(c)):
					faults(t, map[string]api.Fault{s: {Err: word, At: n + len(name)}, s + ">": {Err: word, At: n + len(name)}, s + nameOf('x', 60): {Err: word, At: n + len(name)}})
				default:
					faults(t, map[string]api.Fault{s: {Err: form, At: n + len(name) + len(blank)}, s + ">": {Err: form, At: n + len(name) + len(blank)}})
				}
			}
		}
		faults(t, map[string]api.Fault{open + "<": {Err: short, At: n - 1}, open + "</": {Err: short, At: n}, open + "</ " + name + ">": {Err: word, At: n}, open + "</>": {Err: word, At: n}})
		for end := range name {
			ahead := open + "</" + name[:end]
			faults(t, map[string]api.Fault{ahead: {Err: short, At: len(ahead)}})
			for c := range 256 {
				if b := string([]byte{byte(c)}); b != name[end:end+1] {
					faults(t, map[string]api.Fault{ahead + b: {Err: word, At: len(ahead)}, ahead + b + name[end:] + ">": {Err: word, At: len(ahead)}})
				}
			}
		}
	}
	// The end is that of the innermost one.
	faults(t, map[string]api.Fault{
		"<a><b></a>": {Err: word, At: 8}, "<a><b></b></b>": {Err: word, At: 12}, "<a><b></a></b>": {Err: word, At: 8}, "<ab><a></ab>": {Err: word, At: 10}, "<a><ab></a>": {Err: word, At: 10}, "<a></a></a>": {Err: form, At: 8}, "<a><b/></b></a>": {Err: word, At: 9}, "<a><b/>": {Err: short, At: 7}, "<a><b></b>": {Err: short, At: 10}, "<a></a/>": {Err: form, At: 6}, "<a></a b=''>": {Err: form, At: 7}, "<a>< /a>": {Err: form, At: 4}, "<a></a\x00>": {Err: form, At: 6}, "<a></\x00>": {Err: word, At: 5}, "<ab></aB>": {Err: word, At: 7}, "<ab></Ab>": {Err: word, At: 6}, "<a><b></b ></a!>": {Err: form, At: 14},
	})
	for _, s := range []string{"<a/", "<a b='1'/", "<a /", "<a><b/"} {
		faults(t, map[string]api.Fault{s: {Err: short, At: len(s)}})
		for c := range 256 {
			if c != '>' {
				faults(t, map[string]api.Fault{s + string([]byte{byte(c)}): {Err: form, At: len(s)}, s + string([]byte{byte(c)}) + ">": {Err: form, At: len(s)}})
			}
		}
	}
}

// P16.1: attributes, their blanks and their quotes.
func TestAttributes(t *testing.T) {
	reads(t, map[string]api.Xml{
		`<a b=""/>`: element("a", 0, 7, attr("b", "")), "<a b=''/>": element("a", 0, 7, attr("b", "")), `<a b="1" c="2"/>`: element("a", 0, 14, attr("b", "1"), attr("c", "2")), "<a c='1' b='2'></a>": element("a", 0, 15, attr("c", "1"), attr("b", "2")), "<a a='a'/>": element("a", 0, 8, attr("a", "a")), "<a\nb='1'\rc='2'\td='3'/>": element("a", 0, 20, attr("b", "1"), attr("c", "2"), attr("d", "3")), "<a b \t=\r\n '1' />": element("a", 0, 14, attr("b", "1")), "<a   b='1'   >x</a>": element("a", 0, 14, attr("b", "1"), "x"), "<a b='1'><c b='1'/></a>": element("a", 0, 19, attr("b", "1"), element("c", 9, 17, attr("b", "1"))),
		`<a b="'"/>`: element("a", 0, 8, attr("b", "'")), `<a b='"'/>`: element("a", 0, 8, attr("b", `"`)), `<a b="''" c='""'/>`: element("a", 0, 16, attr("b", "''"), attr("c", `""`)), `<a b=">/>"/>`: element("a", 0, 10, attr("b", ">/>")), "<a b='\n\t\r '/>": element("a", 0, 11, attr("b", "\n\t\r ")), "<a b='\x00\xff=c'/>": element("a", 0, 11, attr("b", "\x00\xff=c")), "<a b='--> ]]> ?>'/>": element("a", 0, 17, attr("b", "--> ]]> ?>")),
		`<a b="&lt;&gt;&amp;&quot;&apos;&#65;&#x42;"/>`: element("a", 0, 43, attr("b", `<>&"'AB`)), "<a b='&apos;' c='&quot;'/>": element("a", 0, 24, attr("b", "'"), attr("c", `"`)), "<a b='x&lt;y' b1='' b-='' B=''/>": element("a", 0, 30, attr("b", "x<y"), attr("b1", ""), attr("b-", ""), attr("B", "")),
	})
	faults(t, map[string]api.Fault{
		"<a b": {Err: short, At: 4}, "<a b ": {Err: short, At: 5}, "<a b=": {Err: short, At: 5}, "<a b= ": {Err: short, At: 6}, "<a b='": {Err: short, At: 6}, "<a b='x": {Err: short, At: 7}, "<a b='x'": {Err: short, At: 8}, "<a b='x' ": {Err: short, At: 9}, "<a ": {Err: short, At: 3}, `<a b="'`: {Err: short, At: 7}, `<a b='"`: {Err: short, At: 7}, `<a b="'/>`: {Err: short, At: 9},
		"<a b/>": {Err: form, At: 4}, "<a b>": {Err: form, At: 4}, "<a b c=''/>": {Err: form, At: 5}, "<a b=>": {Err: form, At: 5}, "<a b=1/>": {Err: form, At: 5}, "<a b=&quot;1&quot;/>": {Err: form, At: 5}, "<a b==''/>": {Err: form, At: 5}, "<a b='1''/>": {Err: form, At: 8}, "<a b='1'c='2'/>": {Err: form, At: 8}, `<a b="1"c="2"/>`: {Err: form, At: 8}, "<a b='1' =''/>": {Err: form, At: 9}, "<a'1'/>": {Err: form, At: 2}, "<a ''/>": {Err: form, At: 3}, "<a='1'/>": {Err: form, At: 2}, "<a b='1',c='2'/>": {Err: form, At: 8}, "<a / >": {Err: form, At: 4}, "<a b='1'/ >": {Err: form, At: 9}, "<a //>": {Err: form, At: 4}, "<a b=`1`/>": {Err: form, At: 5}, "<a <b/>": {Err: form, At: 3}, "<a<b/>": {Err: form, At: 2}, "<a b<": {Err: form, At: 4}, "<a b=<": {Err: form, At: 5}, "<a b=''<": {Err: form, At: 7},
		"<a b='<'/>": {Err: form, At: 6}, `<a b="<"/>`: {Err: form, At: 6}, `<a b="'<'"/>`: {Err: form, At: 7}, "<a b='&'/>": {Err: form, At: 7}, "<a b='&x;'/>": {Err: form, At: 7}, "<a b='& '/>": {Err: form, At: 7}, "<a b='&#0;'/>": {Err: kind, At: 6}, "<a b='x&#xd800;'/>": {Err: kind, At: 7}, "<a b='&lt'/>": {Err: form, At: 9}, "<a b='<!---->'/>": {Err: form, At: 6}, "<a b='<![CDATA[x]]>'/>": {Err: form, At: 6},
	})
	for _, quote := range []string{"'", `"`} {
		for c := range 256 {
			b := string([]byte{byte(c)})
			ahead := "<a b=" + quote
			switch {
			case b == quote:
				faults(t, map[string]api.Fault{ahead + b: {Err: short, At: 7}, ahead + b + quote: {Err: form, At: 7}})
			case b == "<":
				faults(t, map[string]api.Fault{ahead + b: {Err: form, At: 6}, ahead + b + quote + "/>": {Err: form, At: 6}})
			case b == "&":
				faults(t, map[string]api.Fault{ahead + b: {Err: short, At: 7}, ahead + b + quote + "/>": {Err: form, At: 7}})
			default:
				reads(t, map[string]api.Xml{ahead + b + quote + "/>": element("a", 0, 8, attr("b", b)), ahead + "x" + b + b + quote + "/>": element("a", 0, 10, attr("b", "x"+b+b))})
			}
			if !isIn(blanks+`'"`, byte(c)) {
				faults(t, map[string]api.Fault{"<a b=" + b: {Err: form, At: 5}, "<a b= " + b + quote + quote + "/>": {Err: form, At: 6}})
			}
			if !isIn(blanks+"/>", byte(c)) {
				faults(t, map[string]api.Fault{ahead + quote + b: {Err: form, At: 7}, ahead + quote + b + "c=''/>": {Err: form, At: 7}})
			}
		}
	}
}

// P16.1: an attribute's name that stands there already.
func TestTwice(t *testing.T) {
	for _, name := range []string{"b", "bc", "_", "xml:id", "b-", nameOf('n', 47), nameOf('n', 48)} {
		ahead := "<a " + name + "='1' "
		n := len(ahead)
		// It is told where the name ends, whatever stands there.
		for c := range 256 {
			b := string([]byte{byte(c)})
			if isIn(nameBytes, byte(c)) {
				want := api.Fault{Err: short, At: n + len(name) + 1}
				if len(name) == 48 {
					want = api.Fault{Err: long, At: n + 48}
				}
				faults(t, map[string]api.Fault{ahead + name + b: want})
				if len(name) < 48 {
					reads(t, map[string]api.Xml{ahead + name + b + "='2'/>": element("a", 0, n+len(name)+5, attr(name, "1"), attr(name+b, "2"))})
				}
				continue
			}
			faults(t, map[string]api.Fault{ahead + name + b: {Err: twice, At: n}, ahead + name + b + "='2'/>": {Err: twice, At: n}})
		}
		for _, behind := range []string{"='1'/>", "=''", " = '", "/>", " ", "!", "<", "=", "=&#0;", "='&x;"} {
			faults(t, map[string]api.Fault{ahead + name + behind: {Err: twice, At: n}, ahead + "\n\t" + name + behind: {Err: twice, At: n + 2}, ahead + "q='' r='' " + name + behind: {Err: twice, At: n + 10}, "<o>" + ahead + name + behind: {Err: twice, At: n + 3}, "<o q='" + name + "'>" + ahead + "s='" + name + "=' " + name + behind: {Err: twice, At: n + 14 + 2*len(name)}})
		}
		// As long as it does not end, nothing is told of it.
		for end := range name {
			faults(t, map[string]api.Fault{ahead + name[:end]: {Err: short, At: n + end}})
		}
		faults(t, map[string]api.Fault{ahead + name: {Err: short, At: n + len(name)}})
	}
	reads(t, map[string]api.Xml{
		"<a b='' B='' b.=''/>": element("a", 0, 18, attr("b", ""), attr("B", ""), attr("b.", "")), "<a b=''><a b=''/><c b=''/></a>": element("a", 0, 26, attr("b", ""), element("a", 8, 15, attr("b", "")), element("c", 17, 24, attr("b", ""))), "<b b='b'/>": element("b", 0, 8, attr("b", "b")), "<a b=\" b='1' b='2'\"/>": element("a", 0, 19, attr("b", " b='1' b='2'")),
	})
	faults(t, map[string]api.Fault{"<a b='' c='' c='' b=''/>": {Err: twice, At: 13}, "<a b='' c='' b='' c=''/>": {Err: twice, At: 13}, "<a b='' b='' b=''/>": {Err: twice, At: 8}, "<a b='1'><c b='' d='' b=''/></a>": {Err: twice, At: 22}})
	// Many names, all of them others but the last one.
	s, want := "<a", element("a", 0, 0)
	for i := range 5000 {
		name := fmt.Sprintf("n%d", i)
		s += " " + name + "=''"
		want.Attrs = append(want.Attrs, attr(name, ""))
	}
	want.TextAt = len(s)
	reads(t, map[string]api.Xml{s + "/>": want})
	faults(t, map[string]api.Fault{s + " n4999=''/>": {Err: twice, At: len(s) + 1}, s + " n0/>": {Err: twice, At: len(s) + 1}, s + " n50": {Err: short, At: len(s) + 4}})
}

// P16.1: elements in one another.
func TestDeep(t *testing.T) {
	const eight, closed = "<a><b><c><d><e><f><g><h>", "</h></g></f></e></d></c></b></a>"
	for _, inner := range []string{"", "x", "&lt;", "<![CDATA[<i>]]>", "<!-- <i> -->", " \n"} {
		x, f := xml.Parse(eight + inner + closed)
		if f != (api.Fault{}) || xml.Count(x) != 8 || !xml.Fit(x) {
			t.Errorf("Parse(%q) = %s, %v", eight+inner+closed, brief(x), f)
		}
		at := len(eight + inner)
		for _, s := range []string{"<i", "<i/>", "<i></i>", "<i!", "<a>", "<_", "<i b='' b=''/>", "<" + nameOf('n', 60), "<a></h>"} {
			faults(t, map[string]api.Fault{eight + inner + s: {Err: deep, At: at}, eight + inner + s + closed: {Err: deep, At: at}})
		}
		// It is told where its name begins.
		faults(t, map[string]api.Fault{eight + inner + "<": {Err: short, At: at + 1}, eight + inner + "< i": {Err: form, At: at + 1}, eight + inner + "<1": {Err: form, At: at + 1}, eight + inner + "<!": {Err: short, At: at + 2}, eight + inner + "<!i": {Err: form, At: at + 2}, eight + inner + "</": {Err: short, At: at + 2}, eight + inner + "</i": {Err: word, At: at + 2}, eight + inner + "<?": {Err: form, At: at + 1}})
	}
	for c := range 256 {
		b := string([]byte{byte(c)})
		if isIn(nameFirst, byte(c)) {
			faults(t, map[string]api.Fault{eight + "<" + b: {Err: deep, At: 24}})
		} else if !isIn("/!", byte(c)) {
			faults(t, map[string]api.Fault{eight + "<" + b: {Err: form, At: 25}})
		}
	}
	// An element that is empty is one as well, and what is closed counts no more.
	const seven, sevenClosed = "<a><b><c><d><e><f><g>", "</g></f></e></d></c></b></a>"
	wide := seven + strings.Repeat("<h/><h></h>", 1000)
	x, f := xml.Parse(wide + sevenClosed)
	if f != (api.Fault{}) || xml.Count(x) != 2007 {
		t.Errorf("many side by side: %v, %d", f, xml.Count(x))
	}
	faults(t, map[string]api.Fault{wide + "<h><i": {Err: deep, At: len(wide) + 3}, wide + "<h><i/>": {Err: deep, At: len(wide) + 3}, wide + "<h>": {Err: short, At: len(wide) + 3}, seven + "<h/><h><!-- --><i/>": {Err: deep, At: len(seven) + 15}, strings.Repeat("<a>", 21845): {Err: deep, At: 24}, strings.Repeat("<a b='1'>", 7000): {Err: deep, At: 72}, seven + "<h></h></g><h><i>": {Err: short, At: len(seven) + 17}, seven + "<h></h></g><h><i><j>": {Err: deep, At: len(seven) + 17}})
	again := "<r>" + strings.Repeat(seven+sevenClosed, 500) + "</r>"
	if x, f := xml.Parse(again); f != (api.Fault{}) || xml.Count(x) != 3501 || !xml.Fit(x) {
		t.Errorf("many deep ones side by side: %v", f)
	}
}

// P16.1: several faults: the first one is told.
func TestFirstFault(t *testing.T) {
	n48 := nameOf('n', 48)
	faults(t, map[string]api.Fault{
		"<a b='' b='<'/>": {Err: twice, At: 8}, "<a b='<' b=''/>": {Err: form, At: 6}, "<a b='&#0;' b=''/>": {Err: kind, At: 6}, "<a b='' b='&#0;'/>": {Err: twice, At: 8}, "<a>&#0;</b>": {Err: kind, At: 3}, "<a></b>&#0;": {Err: word, At: 5}, "<a>&#0</a>": {Err: form, At: 6}, "<a>&#1234567890;</a>": {Err: kind, At: 3}, "<a>&#12345678x;</a>": {Err: form, At: 13}, "<a>&#xg;": {Err: form, At: 6}, "<a>&#0": {Err: short, At: 6}, "<a>&#99999999": {Err: short, At: 13}, "<a>&#999999999": {Err: kind, At: 3},
		"<" + n48 + "n b='' b=''>": {Err: long, At: 49}, "<a " + n48 + "='' " + n48 + "n=''/>": {Err: long, At: 103}, "<a></" + n48 + "n>": {Err: word, At: 5}, "<a b='' b": {Err: short, At: 9}, "<a b='' b\x00": {Err: twice, At: 8}, "<a/><!-": {Err: short, At: 7}, "<a/>!<b": {Err: form, At: 4}, "<a><b></c></d>": {Err: word, At: 8}, "<a><![CDATA[x]]</a>": {Err: short, At: 19}, "<a><!-- </a>": {Err: short, At: 12}, "<?xml <a/>": {Err: short, At: 10},
	})
	// A text's end, at each place where it may not be.
	const s = "<?xml version='1.0'?>\n<!-- c --> <a b = \"1&lt;\" c='&#65;&#x4a;' ><d/>x&quot;<!-- -- --><e f=''><![CDATA[]]]]></e ></a > <!-- d --> "
	whole := strings.LastIndex(s, "</a >") + len("</a >")
	for end := range len(s) + 1 {
		_, f := xml.Parse(s[:end])
		if beside := end >= whole && (end < strings.LastIndex(s, "<!--")+1 || end >= len(s)-1); beside != (f == api.Fault{}) || !beside && f != (api.Fault{Err: short, At: end}) {
			t.Errorf("Parse(%q) = %v", s[:end], f)
		}
	}
}
