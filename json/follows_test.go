package json_test

import (
	"fmt"
	"math/rand"
	"slices"
	"strconv"
	"strings"
	"testing"
	"unicode/utf16"
	"unicode/utf8"

	"dovetail/api"
	"dovetail/json"
)

// anyText is a text of some bytes and characters, chosen by a source.
func anyText(source *rand.Rand) string {
	s := ""
	for range source.Intn(4) {
		switch source.Intn(4) {
		case 0:
			s += string([]byte{byte(source.Intn(256))})
		case 1:
			s += string([]rune{0, 0x1f, 0x7f, 0x80, 0x7ff, 0x800, 0xd7ff, 0xe000, 0xffff, 0x10000, 0x10ffff}[source.Intn(11)])
		default:
			s += string("ab/\"\\\n u"[source.Intn(8)])
		}
	}
	return s
}

// anyNumber is the text of a number.
func anyNumber(source *rand.Rand) string {
	s := []string{"", "-"}[source.Intn(2)] + strconv.Itoa(source.Intn(3)*source.Intn(1000))
	if source.Intn(3) == 0 {
		s += fmt.Sprintf(".%02d", source.Intn(100))
	}
	if source.Intn(3) == 0 {
		s += []string{"e", "E", "e+", "E-"}[source.Intn(4)] + fmt.Sprintf("%02d", source.Intn(100))
	}
	return s
}

// anyFit is a fit value of at most so many lists and objects in one another.
func anyFit(source *rand.Rand, depth int) api.Json {
	kind := api.JsNull + source.Intn(api.JsString)
	if depth > 0 && source.Intn(3) > 0 {
		kind = api.JsList + source.Intn(2)
	}
	j := api.Json{Kind: kind}
	switch kind {
	case api.JsNumber:
		j.Text = anyNumber(source)
	case api.JsString:
		j.Text = anyText(source)
	case api.JsList, api.JsObject:
		for range source.Intn(4) {
			key := anyText(source)
			if kind == api.JsObject && slices.Contains(j.Keys, key) {
				continue
			}
			if kind == api.JsObject {
				j.Keys = append(j.Keys, key)
			}
			j.Kids = append(j.Kids, anyFit(source, depth-1))
		}
	}
	return j
}

// anyWild is a value that is often not fit.
func anyWild(source *rand.Rand, depth int) api.Json {
	j := api.Json{Kind: api.JsNull + source.Intn(api.JsObject), At: source.Intn(100)}
	switch source.Intn(8) {
	case 0:
		j.Kind = source.Intn(12) - 2
	case 1, 2, 3:
		j.Kind = api.JsObject
	}
	if j.Kind == api.JsNumber || source.Intn(20) == 0 {
		j.Text = []string{"", "0", "01", "-", "1.5", "x"}[source.Intn(6)]
	}
	if depth == 0 {
		return j
	}
	if holds := j.Kind == api.JsList || j.Kind == api.JsObject; holds || source.Intn(10) == 0 {
		for range source.Intn(4) {
			j.Kids = append(j.Kids, anyWild(source, depth-1))
		}
	}
	if j.Kind == api.JsObject || source.Intn(10) == 0 {
		count := len(j.Kids)
		if source.Intn(6) == 0 {
			count = source.Intn(4)
		}
		for range count {
			j.Keys = append(j.Keys, string("abcd"[source.Intn(4)]))
		}
	}
	return j
}

// speller writes a value, with blanks more, and with escapes where there need be none, and tells places.
type speller struct {
	source *rand.Rand
	text   []byte
}

func (w *speller) blanks() {
	for w.source.Intn(3) == 0 {
		w.text = append(w.text, " \t\n\r"[w.source.Intn(4)])
	}
}

// unit writes a number of UTF-16, in great letters or small ones.
func (w *speller) unit(n uint16) {
	form := `\u%04x`
	if w.source.Intn(2) == 0 {
		form = `\u%04X`
	}
	w.text = fmt.Appendf(w.text, form, n)
}

func (w *speller) quoted(s string) {
	w.text = append(w.text, '"')
	for len(s) > 0 {
		c, size := utf8.DecodeRuneInString(s)
		short := strings.IndexRune("\"\\/\b\f\n\r\t", c)
		switch plain := c >= ' ' && c != '"' && c != '\\'; {
		case c == utf8.RuneError && size == 1, plain && w.source.Intn(3) > 0:
			w.text = append(w.text, s[:size]...)
		case short >= 0 && w.source.Intn(2) == 0:
			w.text = append(w.text, '\\', `"\/bfnrt`[short])
		default:
			for _, n := range utf16.Encode([]rune{c}) {
				w.unit(n)
			}
		}
		s = s[size:]
	}
	w.text = append(w.text, '"')
}

// value writes a value, and is it with its places.
func (w *speller) value(j api.Json) api.Json {
	w.blanks()
	j.At = len(w.text)
	switch j.Kind {
	case api.JsNull, api.JsFalse, api.JsTrue, api.JsNumber:
		w.text = append(w.text, written(j)...)
	case api.JsString:
		w.quoted(j.Text)
	default:
		brackets := "[]"
		if j.Kind == api.JsObject {
			brackets = "{}"
		}
		w.text = append(w.text, brackets[0])
		j.Kids = slices.Clone(j.Kids)
		for i, kid := range j.Kids {
			if i > 0 {
				w.text = append(w.text, ',')
			}
			if j.Kind == api.JsObject {
				w.blanks()
				w.quoted(j.Keys[i])
				w.blanks()
				w.text = append(w.text, ':')
			}
			j.Kids[i] = w.value(kid)
		}
		w.blanks()
		w.text = append(w.text, brackets[1])
	}
	w.blanks()
	return j
}

// P14.1, P14.9 and P14.10: there and back, with blanks more, escapes and places.
func TestThereAndBack(t *testing.T) {
	source := rand.New(rand.NewSource(9))
	kinds := map[int]int{}
	for range 20000 {
		j := anyFit(source, source.Intn(9))
		kinds[j.Kind]++
		text := json.Print(j)
		if !json.Fit(j) || text != written(j) {
			t.Fatalf("Print(%+v) = %q", j, text)
		}
		if again, f := json.Parse(text); f != (api.Fault{}) || !json.Same(again, j) || json.Print(again) != text {
			t.Fatalf("%+v is written %q, which is read as %+v, %v", j, text, again, f)
		}
		w := speller{source: source}
		placed := w.value(j)
		got, f := json.Parse(string(w.text))
		if f != (api.Fault{}) || !equal(got, placed) || !json.Same(got, j) || !json.Fit(got) || json.Print(got) != text {
			t.Fatalf("Parse(%q) = %+v, %v, not %+v", w.text, got, f, placed)
		}
	}
	for kind := api.JsNull; kind < api.NumJss; kind++ {
		if kinds[kind] < 500 {
			t.Errorf("only %d values of the kind %d", kinds[kind], kind)
		}
	}
}

// P14.9: a text may become longer, if it is written, than one that is read.
func TestLongerThanRead(t *testing.T) {
	s := `"` + strings.Repeat(`\n`, 20000) + `"`
	j, f := json.Parse(s)
	if text := json.Print(j); f != (api.Fault{}) || !json.Fit(j) || text != `"`+strings.Repeat(`\u000a`, 20000)+`"` {
		t.Errorf("%v, %d bytes", f, len(text))
	}
	faults(t, map[string]api.Fault{json.Print(j): {Err: long, At: 65536}})
}

// The chapter's promises by their words, one by one.

func fitByWords(j api.Json, around int) bool {
	container := j.Kind == api.JsList || j.Kind == api.JsObject
	if j.Kind < api.JsNull || j.Kind > api.JsObject || container && around >= 8 || !container && len(j.Kids) > 0 {
		return false
	}
	if j.Kind == api.JsObject {
		if len(j.Keys) != len(j.Kids) {
			return false
		}
		for i, key := range j.Keys {
			if slices.Contains(j.Keys[:i], key) {
				return false
			}
		}
	} else if len(j.Keys) > 0 {
		return false
	}
	if j.Kind == api.JsNumber && !slices.Contains([]string{"0", "1.5"}, j.Text) || j.Kind != api.JsNumber && j.Kind != api.JsString && j.Text != "" {
		return false
	}
	return !slices.ContainsFunc(j.Kids, func(kid api.Json) bool { return !fitByWords(kid, around+1) })
}

func getByWords(j api.Json, key string) (api.Json, bool) {
	for i := 0; i < len(j.Keys) && i < len(j.Kids) && j.Kind == api.JsObject; i++ {
		if j.Keys[i] == key {
			return j.Kids[i], true
		}
	}
	return api.Json{}, false
}

func sortedByWords(j api.Json) api.Json {
	sorted := api.Json{Kind: j.Kind, At: j.At, Text: j.Text}
	keys := slices.Clone(j.Keys)
	if j.Kind != api.JsObject || len(j.Keys) != len(j.Kids) {
		for _, kid := range j.Kids {
			sorted.Kids = append(sorted.Kids, sortedByWords(kid))
		}
		sorted.Keys = keys
		return sorted
	}
	slices.Sort(keys)
	for _, key := range slices.Compact(keys) {
		for i, kid := range j.Kids {
			if j.Keys[i] == key {
				sorted.Keys, sorted.Kids = append(sorted.Keys, key), append(sorted.Kids, sortedByWords(kid))
			}
		}
	}
	return sorted
}

func countByWords(j api.Json) int {
	count := 1
	for _, kid := range j.Kids {
		count += countByWords(kid)
	}
	return count
}

func depthByWords(j api.Json) int {
	if j.Kind != api.JsList && j.Kind != api.JsObject {
		return 0
	}
	deepest := 0
	for _, kid := range j.Kids {
		deepest = max(deepest, depthByWords(kid))
	}
	return 1 + deepest
}

// P14.2 to P14.8, of any values.
func TestByWords(t *testing.T) {
	source, fit, same := rand.New(rand.NewSource(8)), 0, 0
	var before api.Json
	for range 30000 {
		j := anyWild(source, source.Intn(4))
		isFit := fitByWords(j, 0)
		if isFit {
			fit++
			if json.Print(j) != written(j) {
				t.Fatalf("Print(%+v) = %q", j, json.Print(j))
			}
		}
		if json.Fit(j) != isFit || (json.Print(j) != "") != isFit {
			t.Fatalf("Fit(%+v) = %v", j, json.Fit(j))
		}
		if got := json.Sorted(j); !equal(got, sortedByWords(j)) {
			t.Fatalf("Sorted(%+v) = %+v", j, got)
		}
		if json.Count(j) != countByWords(j) || json.Depth(j) != depthByWords(j) {
			t.Fatalf("%+v: Count %d, Depth %d", j, json.Count(j), json.Depth(j))
		}
		sameByWords := equal(unplaced(j), unplaced(before))
		if json.Same(j, before) != sameByWords || !json.Same(j, j) {
			t.Fatalf("Same(%+v, %+v)", j, before)
		}
		if sameByWords {
			same++
		}
		for _, key := range []string{"a", "b", "c", "d", "e", ""} {
			want, ok := getByWords(j, key)
			if got, found := json.Get(j, key); found != ok || !equal(got, want) {
				t.Fatalf("Get(%+v, %q) = %+v, %v", j, key, got, found)
			}
			for _, next := range []string{"a", "b", ""} {
				want, ok := getByWords(want, next)
				if got, found := json.Path(j, key, next); found != ok || !equal(got, want) {
					t.Fatalf("Path(%+v, %q, %q) = %+v, %v", j, key, next, got, found)
				}
			}
		}
		before = j
	}
	if fit < 2000 || fit > 28000 || same < 100 {
		t.Errorf("%d are fit, %d the same", fit, same)
	}
}

// unplaced is a value without places.
func unplaced(j api.Json) api.Json {
	j.At, j.Kids = 0, slices.Clone(j.Kids)
	for i, kid := range j.Kids {
		j.Kids[i] = unplaced(kid)
	}
	return j
}

// P14.11: sorted twice is sorted once, values stay with their keys, and as many values as deep.
func TestSortedFollows(t *testing.T) {
	source := rand.New(rand.NewSource(11))
	for i := range 20000 {
		j := anyFit(source, source.Intn(6))
		if i%2 > 0 {
			j = anyWild(source, source.Intn(5))
		}
		sorted := json.Sorted(j)
		if !equal(json.Sorted(sorted), sorted) || json.Count(sorted) != json.Count(j) || json.Depth(sorted) != json.Depth(j) || json.Fit(sorted) != json.Fit(j) {
			t.Fatalf("Sorted(%+v) = %+v", j, sorted)
		}
		for _, key := range j.Keys {
			value, ok := json.Get(j, key)
			if got, found := json.Get(sorted, key); found != ok || !equal(got, json.Sorted(value)) && ok {
				t.Fatalf("%q of Sorted(%+v) is %+v, %v", key, j, got, found)
			}
		}
		if j.Kind == api.JsObject && len(j.Keys) == len(j.Kids) && !slices.IsSorted(sorted.Keys) {
			t.Fatalf("Sorted(%+v) = %+v", j, sorted)
		}
	}
}
