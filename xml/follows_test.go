package xml_test

import (
	stdxml "encoding/xml"
	"fmt"
	"io"
	"math/rand"
	"slices"
	"strings"
	"testing"
	"unicode/utf8"

	"dovetail/api"
	"dovetail/checks"
	"dovetail/xml"
)

// anyText is a text of any bytes, or of those that are something in XML.
func anyText(source *rand.Rand) string {
	likely := []string{"<", ">", "&", `"`, "'", " ", "\n", "\r", "x", "é", "\U0001f600", "]]>", "<!--", "-->", "&lt;", "&#65;", "</a>", "\ufffd", "\xed\xa0\x80"}
	var b strings.Builder
	for range source.Intn(5) {
		if source.Intn(4) == 0 {
			b.WriteByte(byte(source.Intn(256)))
		} else {
			b.WriteString(likely[source.Intn(len(likely))])
		}
	}
	return b.String()
}

func anyName(source *rand.Rand) string {
	switch source.Intn(10) {
	case 0:
		return nameOf(nameFirst[source.Intn(len(nameFirst))], 1+source.Intn(48))
	case 1:
		return "a" + string(nameBytes[source.Intn(len(nameBytes))])
	}
	return string("abcd"[source.Intn(4)])
}

// anyFit is a fit element with up to so many in one another.
func anyFit(source *rand.Rand, depth int) api.Xml {
	x := plain(anyName(source), anyText(source))
	seen := map[string]bool{}
	for range source.Intn(3) {
		if name := anyName(source); !seen[name] {
			seen[name] = true
			x.Attrs = append(x.Attrs, attr(name, anyText(source)))
		}
	}
	// The deeper, the narrower.
	for range source.Intn(3 + 2/depth) {
		if depth > 1 {
			x.Kids = append(x.Kids, anyFit(source, depth-1))
		}
	}
	return x
}

// anyWild is an element that is often not fit.
func anyWild(source *rand.Rand, depth int) api.Xml {
	word := func() string {
		return []string{"a", "b", "c", "a", "b", "c", "d", "1", ""}[source.Intn(8+source.Intn(20)/19)]
	}
	x := api.Xml{Name: word(), At: source.Intn(50) - 10, TextAt: source.Intn(50) - 10, Text: []string{"", " ", "x", "\n x y ", "<"}[source.Intn(5)]}
	for range source.Intn(4) / 2 {
		x.Attrs = append(x.Attrs, attr(word(), []string{"", "1"}[source.Intn(2)]))
	}
	for range source.Intn(4) {
		if depth > 1 {
			x.Kids = append(x.Kids, anyWild(source, depth-1))
		}
	}
	return x
}

// speller writes an element in one of the many ways that say the same, and tells places.
type speller struct {
	source *rand.Rand
	text   []byte
}

func (w *speller) add(s string) { w.text = append(w.text, s...) }

func (w *speller) blanks(least int) {
	for range least + w.source.Intn(6)/4 {
		w.text = append(w.text, blanks[w.source.Intn(4)])
	}
}

// upTo writes any bytes, and an end, which none of them makes earlier.
func (w *speller) upTo(end string) {
	if s := anyText(w.source); strings.Index(s+end, end) == len(s) {
		w.add(s)
	}
	w.add(end)
}

func (w *speller) comment() {
	if w.source.Intn(4) == 0 {
		w.add("<!--")
		w.upTo("-->")
	}
}

// beside writes blanks and comments, as they stand beside the outermost element.
func (w *speller) beside() {
	for w.source.Intn(3) == 0 {
		w.blanks(0)
		w.comment()
	}
}

// chars writes a text but its bytes of a set as they stand, where that may be, or as references.
func (w *speller) chars(s, but string) {
	for len(s) > 0 {
		c, size := utf8.DecodeRuneInString(s)
		valid := c != utf8.RuneError || size > 1
		name := ""
		for n, said := range names() {
			if s[:size] == said {
				name = n
			}
		}
		switch pick := w.source.Intn(6); {
		case pick < 3 && !strings.Contains(but, s[:size]), !valid, c == 0:
			w.add(s[:size])
		case pick < 5 && name != "":
			w.add("&" + name + ";")
		default:
			w.add(fmt.Sprintf([]string{"&#%d;", "&#%08d;", "&#x%x;", "&#x%X;", "&#x%08x;", "&#x%07X;"}[w.source.Intn(6)], c))
		}
		s = s[size:]
	}
}

func (w *speller) attr(a api.Attr) {
	w.blanks(1)
	w.add(a.Name)
	w.blanks(0)
	w.add("=")
	w.blanks(0)
	quote := string(`"'`[w.source.Intn(2)])
	w.add(quote)
	w.chars(a.Value, "<&"+quote)
	w.add(quote)
}

// part writes a part of an element's text, and tells where it begins; -1, where there is none.
func (w *speller) part(s string) int {
	start := len(w.text)
	const cdata = "<![CDATA["
	if w.source.Intn(4) == 0 && !strings.Contains(s, "]]>") {
		w.add(cdata + s + "]]>")
		return start + len(cdata)
	}
	w.chars(s, "<&")
	if len(w.text) == start {
		return -1
	}
	return start
}

// element writes an element, and is it with its places.
func (w *speller) element(x api.Xml) api.Xml {
	x.At = len(w.text)
	w.add("<" + x.Name)
	for _, a := range x.Attrs {
		w.attr(a)
	}
	w.blanks(0)
	if x.Text == "" && len(x.Kids) == 0 && w.source.Intn(2) == 0 {
		x.TextAt = len(w.text)
		w.add("/>")
		return x
	}
	w.add(">")
	x.TextAt = -1
	x.Kids = slices.Clone(x.Kids)
	left := x.Text
	for i := range len(x.Kids) + 1 {
		cut := w.source.Intn(len(left) + 1)
		if i == len(x.Kids) {
			cut = len(left)
		}
		w.comment()
		for _, part := range []string{left[:cut/2], left[cut/2 : cut]} {
			if at := w.part(part); x.TextAt < 0 {
				x.TextAt = at
			}
			w.comment()
		}
		left = left[cut:]
		if i < len(x.Kids) {
			x.Kids[i] = w.element(x.Kids[i])
		}
	}
	w.comment()
	if x.TextAt < 0 {
		x.TextAt = len(w.text)
	}
	w.add("</" + x.Name)
	w.blanks(0)
	w.add(">")
	return x
}

// P16.1, P16.9 and P16.10: there and back, with comments and blanks more, references, CDATA and places.
func TestThereAndBack(t *testing.T) {
	source := rand.New(rand.NewSource(9))
	deepest := 0
	for range 20000 {
		x := anyFit(source, 1+source.Intn(8))
		text := xml.Print(x)
		if !xml.Fit(x) || text != written(x) {
			t.Fatalf("Print(%+v) = %q", x, text)
		}
		if again, f := xml.Parse(text); f != (api.Fault{}) || !xml.Same(again, x) || xml.Print(again) != text {
			t.Fatalf("%+v is written %q, which is read as %+v, %v", x, text, again, f)
		}
		w := speller{source: source}
		if source.Intn(3) == 0 {
			w.add("<?xml ")
			w.upTo("?>")
		}
		w.beside()
		placed := w.element(x)
		w.beside()
		got, f := xml.Parse(string(w.text))
		if f != (api.Fault{}) || !equal(got, placed) || !xml.Same(got, x) || !xml.Fit(got) || xml.Print(got) != text {
			t.Fatalf("Parse(%q) = %+v, %v, not %+v", w.text, got, f, placed)
		}
		if depthByWords(x) == 8 {
			deepest++
		}
	}
	if deepest < 100 {
		t.Errorf("only %d are deep", deepest)
	}
}

// P16.9: what a text is read as is written as its own text.
func TestReadAndWritten(t *testing.T) {
	read, l := 0, append(rows(), samples()...)
	for _, s := range samples() {
		l = append(l, checks.Edited(s, "x>'\" ;\x00")...)
	}
	for _, s := range l {
		x, f := xml.Parse(s)
		if f != (api.Fault{}) {
			continue
		}
		read++
		text := xml.Print(x)
		if again, f := xml.Parse(text); f != (api.Fault{}) || !xml.Same(again, x) || xml.Print(again) != text || !xml.Fit(x) {
			t.Fatalf("%q is written %q, which is read as %+v, %v", s, text, again, f)
		}
	}
	if read < 1000 {
		t.Errorf("only %d are read", read)
	}
	// A text may become longer, if it is written, than one that is read.
	s := "<a>" + strings.Repeat(">", 30000) + "</a>"
	x, f := xml.Parse(s)
	if text := xml.Print(x); f != (api.Fault{}) || !xml.Fit(x) || text != "<a>"+strings.Repeat("&gt;", 30000)+"</a>" {
		t.Errorf("%v, %d bytes", f, len(text))
	}
	faults(t, map[string]api.Fault{xml.Print(x): {Err: long, At: 65536}})
}

// P16.4: what is written is XML by the library's words too.
func TestLibrary(t *testing.T) {
	source := rand.New(rand.NewSource(4))
	plainText := func() string { return strings.Repeat(string("<>&\"'x y]-"[source.Intn(10)]), source.Intn(4)) }
	var some func(depth int) api.Xml
	some = func(depth int) api.Xml {
		x := plain(nameOf('a', 1+source.Intn(5)), attr("b", plainText()), attr("c.d", plainText()), plainText())
		for range source.Intn(3) {
			if depth > 1 {
				x.Kids = append(x.Kids, some(depth-1))
			}
		}
		return x
	}
	for range 3000 {
		x := some(1 + source.Intn(8))
		d := stdxml.NewDecoder(strings.NewReader(xml.Print(x)))
		var open []api.Xml
		for {
			token, err := d.Token()
			if err == io.EOF {
				break
			}
			if err != nil {
				t.Fatalf("%q: %v", xml.Print(x), err)
			}
			switch token := token.(type) {
			case stdxml.StartElement:
				next := plain(token.Name.Local)
				for _, a := range token.Attr {
					next.Attrs = append(next.Attrs, attr(a.Name.Local, a.Value))
				}
				open = append(open, next)
			case stdxml.CharData:
				open[len(open)-1].Text += string(token)
			case stdxml.EndElement:
				if last := len(open) - 1; last > 0 {
					open[last-1].Kids = append(open[last-1].Kids, open[last])
					open = open[:last]
				}
			}
		}
		if len(open) != 1 || !xml.Same(open[0], x) {
			t.Fatalf("%q is read as %+v", xml.Print(x), open)
		}
	}
}

// P16.10: a comment at each place where one may stand.
func TestCommentsEverywhere(t *testing.T) {
	const marked = "<?xml ?>~ ~<a b=''>~x~<c>~</c>~y~<d/>~&lt;~<![CDATA[z]]>~<e f='1'>~<g>~1~</g>~</e>~</a>~\n~"
	want := read(t, strings.ReplaceAll(marked, "~", ""))
	pieces := strings.Split(marked, "~")
	for _, c := range comments() {
		for i := 1; i < len(pieces); i++ {
			s := strings.Join(pieces[:i], "") + c + strings.Join(pieces[i:], "")
			x, f := xml.Parse(s)
			if f != (api.Fault{}) || !xml.Same(x, want) {
				t.Errorf("Parse(%.200q) = %s, %v", s, brief(x), f)
			}
			if again, fault := machineReads(s); len(s) < 1000 && (fault != f || !equal(again, x)) {
				t.Errorf("Parse(%.200q) = %s, not %+v", s, brief(x), again)
			}
		}
		if x, f := xml.Parse(strings.Join(pieces, c)); len(c) < 1000 && (f != (api.Fault{}) || !xml.Same(x, want)) {
			t.Errorf("comments of %.60q everywhere: %s, %v", c, brief(x), f)
		}
	}
}

// P16.11
func TestEscapeFollows(t *testing.T) {
	source := rand.New(rand.NewSource(11))
	for range 5000 {
		escapedSays(t, anyText(source)+anyText(source))
	}
}

// The chapter's promises by their words, one by one.

func nameByWords(s string) bool {
	for i := range len(s) {
		if !isIn(nameBytes, s[i]) || i == 0 && !isIn(nameFirst, s[i]) {
			return false
		}
	}
	return 1 <= len(s) && len(s) <= 48
}

func fitByWords(x api.Xml, around int) bool {
	if !nameByWords(x.Name) || around >= 8 {
		return false
	}
	for i, a := range x.Attrs {
		if !nameByWords(a.Name) || slices.ContainsFunc(x.Attrs[:i], func(b api.Attr) bool { return a.Name == b.Name }) {
			return false
		}
	}
	return !slices.ContainsFunc(x.Kids, func(kid api.Xml) bool { return !fitByWords(kid, around+1) })
}

func kidsByWords(x api.Xml, name string) []api.Xml {
	return slices.DeleteFunc(slices.Clone(x.Kids), func(kid api.Xml) bool { return kid.Name != name })
}

func countByWords(x api.Xml) int {
	count := 1
	for _, kid := range x.Kids {
		count += countByWords(kid)
	}
	return count
}

func depthByWords(x api.Xml) int {
	deepest := 0
	for _, kid := range x.Kids {
		deepest = max(deepest, depthByWords(kid))
	}
	return 1 + deepest
}

// valueByWords is the text at names, without blanks.
func valueByWords(x api.Xml, names []string) (string, bool) {
	for _, name := range names {
		l := kidsByWords(x, name)
		if len(l) == 0 {
			return "", false
		}
		x = l[0]
	}
	s := x.Text
	for s != "" && isIn(blanks, s[0]) {
		s = s[1:]
	}
	for s != "" && isIn(blanks, s[len(s)-1]) {
		s = s[:len(s)-1]
	}
	return s, true
}

// P16.2 to P16.8, of any elements.
func TestByWords(t *testing.T) {
	source, fit, same, found := rand.New(rand.NewSource(8)), 0, 0, 0
	var before api.Xml
	for range 30000 {
		x := anyWild(source, 1+source.Intn(4))
		isFit := fitByWords(x, 0)
		if isFit {
			fit++
			if xml.Print(x) != written(x) {
				t.Fatalf("Print(%+v) = %q", x, xml.Print(x))
			}
		}
		if xml.Fit(x) != isFit || (xml.Print(x) != "") != isFit {
			t.Fatalf("Fit(%+v) = %v", x, xml.Fit(x))
		}
		if xml.Count(x) != countByWords(x) {
			t.Fatalf("Count(%+v) = %d", x, xml.Count(x))
		}
		sameByWords := equal(moved(x, 0, 0), moved(before, 0, 0))
		if xml.Same(x, before) != sameByWords || !xml.Same(x, x) {
			t.Fatalf("Same(%+v, %+v)", x, before)
		}
		if sameByWords {
			same++
		}
		for _, name := range []string{"a", "b", "1", ""} {
			kids(t, x, name, kidsByWords(x, name)...)
			for _, names := range [][]string{{}, {name}, {name, "a"}, {"b", name, "a"}} {
				want, ok := valueByWords(x, names)
				if got, there := xml.Value(x, names...); got != want || there != ok {
					t.Fatalf("Value(%+v, %q) = %q, %v", x, names, got, there)
				}
				if ok && len(names) > 1 {
					found++
				}
			}
		}
		before = x
	}
	if fit < 2000 || fit > 28000 || same < 30 || found < 2000 {
		t.Errorf("%d are fit, %d the same, %d values found", fit, same, found)
	}
}
