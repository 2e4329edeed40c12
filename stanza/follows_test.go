package stanza_test

import (
	"math/rand"
	"slices"
	"strings"
	"testing"

	"dovetail/api"
	"dovetail/checks"
	"dovetail/stanza"
)

// alike tells whether stanzas have the same names and values.
func alike(a, b []api.Stanza) bool {
	return slices.EqualFunc(a, b, func(a, b api.Stanza) bool {
		return slices.EqualFunc(a.Fields, b.Fields, func(a, b api.Field) bool { return a.Name == b.Name && a.Value == b.Value })
	})
}

// anyOf is a text of some bytes of a set, as many as a source says, below a count.
func anyOf(source *rand.Rand, set string, below int) string {
	b := make([]byte, source.Intn(below))
	for i := range b {
		b[i] = set[source.Intn(len(set))]
	}
	return string(b)
}

// anyStanzas is some stanzas, all of which can be written.
func anyStanzas(source *rand.Rand) []api.Stanza {
	printable := checks.Bytes(32, 126, "") + "    \t\t::##,,"
	var l []api.Stanza
	for range source.Intn(5) {
		var x api.Stanza
		for range 1 + source.Intn(4) {
			name := anyOf(source, "abcxyz", 2) + "n" + anyOf(source, "abz019-", []int{3, 47}[source.Intn(2)])
			x.Fields = append(x.Fields, plain(name, strings.Trim(anyOf(source, printable, 12), " \t")))
		}
		l = append(l, x)
	}
	return l
}

// spoilt is stanzas of which one can't be written any more, if there are any.
func spoilt(source *rand.Rand, l []api.Stanza) []api.Stanza {
	l = slices.Clone(l)
	i := source.Intn(len(l))
	l[i].Fields = slices.Clone(l[i].Fields)
	f := &l[i].Fields[source.Intn(len(l[i].Fields))]
	switch source.Intn(6) {
	case 0:
		l[i].Fields = nil
	case 1:
		f.Name = []string{"", "-" + f.Name, "7" + f.Name, f.Name + " ", f.Name + "E", "_"}[source.Intn(6)]
	case 2:
		f.Name += strings.Repeat("x", 49-len(f.Name))
	case 3:
		f.Value = []string{" ", "\t"}[source.Intn(2)] + f.Value
	case 4:
		f.Value += []string{" ", "\t", "\n", "\r"}[source.Intn(4)]
	default:
		at := source.Intn(len(f.Value) + 1)
		f.Value = f.Value[:at] + string([]byte{"\x00\n\r\x1f\x7f\x80\xff"[source.Intn(7)]}) + f.Value[at:]
	}
	return l
}

// P15.3 and P15.5.
func TestThereAndBack(t *testing.T) {
	source := rand.New(rand.NewSource(155))
	for range 20000 {
		l := anyStanzas(source)
		want := ""
		for i, x := range l {
			if i > 0 {
				want += "\n"
			}
			for _, f := range x.Fields {
				want += f.Name + ": " + f.Value + "\n"
			}
		}
		text := stanza.Text(l)
		again, f := stanza.Parse(text)
		if text != want || f != (api.Fault{}) || !alike(again, l) {
			t.Fatalf("Text(%+v) = %q, which is read as %+v, %v", l, text, again, f)
		}
		if len(l) > 0 {
			if none := spoilt(source, l); stanza.Text(none) != "" {
				t.Fatalf("Text(%+v) = %q", none, stanza.Text(none))
			}
		}
	}
}

// P15.5: what texts are read as can be written, and is read as the same again.
func TestReadAgain(t *testing.T) {
	count := 0
	for _, s := range everyText() {
		l, f := stanza.Parse(s)
		if f.Err != api.OK {
			continue
		}
		text := stanza.Text(l)
		again, f := stanza.Parse(text)
		if (text == "") != (len(l) == 0) || f != (api.Fault{}) || !alike(again, l) || stanza.Text(again) != text {
			t.Errorf("%q is written as %q, and read as %+v, %v", s, text, again, f)
		}
		if len(l) > 0 {
			count++
		}
	}
	if count < 5000 {
		t.Errorf("only %d texts say something", count)
	}
}

// oneInThree tells whether something is done.
func oneInThree(source *rand.Rand) bool { return source.Intn(3) == 0 }

// dressed is a text with comments, with more blank lines, with carriage returns and blanks at lines' ends, and with capital letters in names.
func dressed(source *rand.Rand, s string) string {
	comments := []string{"#", "# c", "#x: y", "#\x00\xff", "## \r ", "#:"}
	gaps := []string{"", " ", "\t", " \t "}
	ends := []string{"\n", "\r\n", " \n", "\t \r\n", "  \r\n"}
	var b strings.Builder
	add := func(line string) { b.WriteString(line + ends[source.Intn(len(ends))]) }
	more := func(isBlank bool) {
		for oneInThree(source) {
			add(comments[source.Intn(len(comments))])
		}
		for isBlank && oneInThree(source) {
			add(gaps[source.Intn(len(gaps))])
		}
	}
	more(true)
	for line := range strings.Lines(s) {
		line = strings.TrimSuffix(strings.TrimSuffix(line, "\n"), "\r")
		isBlank := strings.Trim(line, " \t") == ""
		more(isBlank)
		if colon := strings.IndexByte(line, ':'); !isBlank && !isIn("# \t", line[0]) && colon > 0 && oneInThree(source) {
			upper := source.Intn(colon) + 1
			line = strings.ToUpper(line[:upper]) + line[upper:]
		}
		add(line)
		more(isBlank)
	}
	more(true)
	if source.Intn(2) == 0 {
		return strings.TrimSuffix(b.String(), "\n")
	}
	return b.String()
}

// P15.6: of what is written, and of texts of all kinds.
func TestDressed(t *testing.T) {
	source := rand.New(rand.NewSource(156))
	var texts []string
	for range 20000 {
		texts = append(texts, stanza.Text(anyStanzas(source)))
	}
	for _, s := range append(everyText(), texts...) {
		l, f := stanza.Parse(s)
		if f.Err != api.OK {
			continue
		}
		more := dressed(source, s)
		if got, f := stanza.Parse(more); f != (api.Fault{}) || !alike(got, l) {
			t.Fatalf("%q is read as %+v, but %q as %+v, %v", s, l, more, got, f)
		}
	}
}

// P15.6: each one alone, at each line.
func TestEachAlone(t *testing.T) {
	const s = "Ab-1: c d\ne:\n f\n\tg\n\nhi:j\n"
	want, _ := stanza.Parse(s)
	lines := strings.SplitAfter(s, "\n")
	for i := range lines {
		line, isBlank := strings.TrimSuffix(lines[i], "\n"), lines[i] == "\n" || lines[i] == ""
		others := []string{"# x\n" + lines[i], line + "\r\n", line + " \n", line + "\t\n", line + " \t\r\n", "#\r\n#\n" + lines[i]}
		if isBlank || i == 0 {
			others = append(others, "\n"+lines[i], " \r\n"+lines[i], "\n\n\t\n"+lines[i])
		}
		if colon := strings.IndexByte(line, ':'); colon > 0 {
			others = append(others, strings.ToUpper(line[:colon])+lines[i][colon:], strings.ToLower(line[:colon])+lines[i][colon:])
		}
		for _, other := range others {
			changed := strings.Join(lines[:i], "") + other + strings.Join(lines[i+1:], "")
			if l, f := stanza.Parse(changed); f != (api.Fault{}) || !alike(l, want) {
				t.Errorf("%q is read as %+v, %v", changed, l, f)
			}
		}
	}
	whole := strings.ReplaceAll(s, "\n", "\r\n")
	if l, f := stanza.Parse(whole); f != (api.Fault{}) || !alike(l, want) {
		t.Errorf("%q is read as %+v, %v", whole, l, f)
	}
}
