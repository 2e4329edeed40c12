package stanza_test

import (
	"fmt"
	"slices"
	"strings"
	"testing"

	"dovetail/api"
	"dovetail/checks"
	"dovetail/stanza"
)

const (
	form  = api.ErrForm
	short = api.ErrShort
	long  = api.ErrLong
)

// field is a field by its name and its value, in a line, its name and its value at some places.
func field(name, value string, line, at, from int) api.Field {
	return api.Field{Name: name, Value: value, Line: line, At: at, From: from}
}

// of is a stanza of some fields, which begins in the line of the first one.
func of(fields ...api.Field) api.Stanza {
	return api.Stanza{Line: fields[0].Line, Fields: fields}
}

// all is some stanzas.
func all(l ...api.Stanza) []api.Stanza { return l }

func equal(a, b []api.Stanza) bool {
	return slices.EqualFunc(a, b, func(a, b api.Stanza) bool { return a.Line == b.Line && slices.Equal(a.Fields, b.Fields) })
}

// brief is stanzas in words, as far as they are few.
func brief(l []api.Stanza) string { return fmt.Sprintf("%.300s", fmt.Sprintf("%+v", l)) }

// reads checks what a text is read as.
func reads(t *testing.T, s string, want ...api.Stanza) {
	t.Helper()
	if l, f := stanza.Parse(s); f != (api.Fault{}) || !equal(l, want) {
		t.Errorf("Parse(%.80q) = %s, %v, not %s", s, brief(l), f, brief(want))
	}
}

// fault checks where a text goes wrong.
func fault(t *testing.T, s string, err api.Errno, at int) {
	t.Helper()
	if l, f := stanza.Parse(s); f != (api.Fault{Err: err, At: at}) || l != nil {
		t.Errorf("Parse(%.80q) = %s, %v, not %v", s, brief(l), f, api.Fault{Err: err, At: at})
	}
}

// P15.1: the chapter's examples.
func TestExamples(t *testing.T) {
	reads(t, "Package: a\nDepends: b,\n c\n\nPackage: d",
		of(field("package", "a", 1, 0, 9), field("depends", "b, c", 2, 11, 20)),
		of(field("package", "d", 5, 27, 36)))
	fault(t, " x", form, 0)
	fault(t, "a b: c", form, 1)
	fault(t, "a", short, 1)
}

// P15.1: a text's bytes.
func TestLength(t *testing.T) {
	const most = 65536
	x := strings.Repeat("x", most)
	feeds, comment := strings.Repeat("\n", most), "#"+x[1:]
	reads(t, "a:"+x[2:], of(field("a", x[2:], 1, 0, 2)))
	reads(t, feeds)
	reads(t, comment)
	reads(t, feeds[4:]+"a: b", of(field("a", "b", most-3, most-4, most-1)))
	reads(t, "a: b"+feeds[4:], of(field("a", "b", 1, 0, 3)))
	reads(t, comment[:most-4]+"\na:b", of(field("a", "b", 2, most-3, most-1)))
	reads(t, "a:\n "+x[4:], of(field("a", x[4:], 1, 0, 2)))
	reads(t, "a:"+strings.Repeat(" ", most-3)+"b", of(field("a", "b", 1, 0, most-1)))

	for _, s := range []string{feeds + "\n", comment + "x", "a:" + x[1:], "a: b" + feeds[3:], feeds[3:] + "a: b", strings.Repeat(" ", most+1), "#" + feeds, "a:\n " + x[3:], "a: b\n" + feeds + feeds} {
		fault(t, s, long, most)
	}
	// Each fault ahead of what is too much, and behind it: none is looked for.
	for _, s := range []string{" x\n", "a b: c\n", "9: c\n", ": c\n", "a: \x01\n", "a:\n \x7f\n", "a\n", strings.Repeat("n", 49) + ": v\n"} {
		fault(t, s+strings.Repeat("#", most+1-len(s)), long, most)
		fault(t, "#"+x[2:]+"\n"+s, long, most)
		fault(t, "#"+x[1:len(x)-len(s)]+"\n"+s, long, most)
	}
	// In a text that is just as long as it may be each one is told, up to the last byte.
	rest := func(s string) string { return s + strings.Repeat("#", most-len(s)) }
	ahead := func(s string) string { return "#" + x[:most-len(s)-2] + "\n" + s }
	fault(t, rest(" x\n"), form, 0)
	fault(t, rest("a b: c\n"), form, 1)
	fault(t, rest("a: \x01\n"), form, 3)
	fault(t, rest("a:\n \x7f\n"), form, 4)
	fault(t, rest("a\n"), short, 1)
	fault(t, rest(strings.Repeat("n", 49)+"\n"), long, 48)
	fault(t, ahead(" x"), form, most-2)
	fault(t, ahead("a b: c"), form, most-5)
	fault(t, ahead("9"), form, most-1)
	fault(t, ahead("a: \x01"), form, most-1)
	fault(t, ahead("a:\n \x7f"), form, most-1)
	fault(t, ahead("a"), short, most)
	fault(t, ahead(strings.Repeat("n", 49)), long, most-1)
	fault(t, x, long, 48)
}

// gaps is lines without bytes but blanks.
func gaps() []string {
	return []string{"\n", " \n", "\t\n", "\r\n", " \r\n", "\t\r\n", " \t  \t\n", "\t \r\n"}
}

// P15.1: no line, and lines of blanks alone.
func TestBlankLines(t *testing.T) {
	reads(t, "")
	for _, s := range append(gaps(), " ", "\t", "\r", " \r", " \t ", "\n ", "\r\n\r", "\n\n\n\n") {
		reads(t, s)
	}
	for _, gap := range gaps() {
		for _, other := range append(gaps(), "") {
			two := gap + other
			lines := strings.Count(two, "\n")
			a := field("a", "1", 1+lines, len(two), len(two)+3)
			reads(t, two+"a: 1\n", of(a))
			reads(t, "a: 1\n"+two, of(field("a", "1", 1, 0, 3)))
			reads(t, two+"a: 1\n"+two, of(a))
			reads(t, two+two)
			reads(t, "a: 1\n"+two+"b: 2", of(field("a", "1", 1, 0, 3)), of(field("b", "2", 2+lines, 5+len(two), 8+len(two))))
			reads(t, "a: 1\n b\n"+two+"c:\n d\n"+two+"e:f", of(field("a", "1 b", 1, 0, 3)), of(field("c", "d", 3+lines, 8+len(two), 10+len(two))), of(field("e", "f", 5+2*lines, 14+2*len(two), 16+2*len(two))))
		}
		// At the end, without a byte 10.
		reads(t, "a: 1\n"+strings.TrimSuffix(gap, "\n"), of(field("a", "1", 1, 0, 3)))
		// Without a blank line they are one stanza.
		reads(t, gap+"a: 1\nb: 2\n"+gap, of(field("a", "1", 2, len(gap), len(gap)+3), field("b", "2", 3, len(gap)+5, len(gap)+8)))
	}
	// Other bytes that look like blanks are none.
	for _, s := range []string{"\v", "\f", "\x00", "\x1f", "\xa0", "\u00a0", "\u3000"} {
		fault(t, s, form, 0)
		fault(t, "a: 1\n"+s+"\nb: 2", form, 5)
		fault(t, " "+s, form, 0)
		fault(t, "a: 1\n "+s+"\nb: 2", form, 6)
	}
	fault(t, "\r\r\n", form, 0)
	fault(t, "\r\r", form, 0)
	fault(t, "\r a: 1", form, 0)
	fault(t, " \r\r\n", form, 0)
	fault(t, "a: 1\n \r\r\n", form, 6)
	fault(t, "a: 1\n\r\r\n", form, 5)
	fault(t, "a: 1\n\rb: 2", form, 5)
}

// P15.1: lines that begin with #, whatever stands in them.
func TestComments(t *testing.T) {
	for _, c := range []string{"#", "##", "# x", "#x", "#a: b", "#\x00\x01\x7f\x80\xff", "# \r x", "#\r", "# b\r", "#:", "#" + strings.Repeat("n", 60), "#\t"} {
		line := c + "\n"
		reads(t, c)
		reads(t, line)
		reads(t, line+line)
		reads(t, line+"\n"+line)
		reads(t, line+"a: 1", of(field("a", "1", 2, len(line), len(line)+3)))
		reads(t, "\n"+line+"\na: 1", of(field("a", "1", 4, len(line)+2, len(line)+5)))
		reads(t, "a: 1\n"+c, of(field("a", "1", 1, 0, 3)))
		reads(t, "a: 1\n\n"+line+"\n", of(field("a", "1", 1, 0, 3)))
		// It ends no stanza, and no value.
		reads(t, "a: 1\n"+line+"b: 2", of(field("a", "1", 1, 0, 3), field("b", "2", 3, len(line)+5, len(line)+8)))
		reads(t, "a: 1\n"+line+" b\n"+line+"\tc\n", of(field("a", "1 b c", 1, 0, 3)))
		reads(t, "a:\n"+line+" b", of(field("a", "b", 1, 0, 2)))
		reads(t, "a: 1\n"+line+"\n"+line+"b: 2", of(field("a", "1", 1, 0, 3)), of(field("b", "2", 5, 2*len(line)+6, 2*len(line)+9)))
		fault(t, line+" x", form, len(line))
		fault(t, "\n"+line+line+"\tx", form, 1+2*len(line))
		fault(t, "a: 1\n\n"+line+" x", form, 6+len(line))
		fault(t, "a: 1\n"+line+"\n x", form, 6+len(line))
	}
	// Within a line it is a byte as any other.
	reads(t, "a: #", of(field("a", "#", 1, 0, 3)))
	reads(t, "a:#b # c", of(field("a", "#b # c", 1, 0, 2)))
	reads(t, "a: 1\n # b\n\t#c", of(field("a", "1 # b #c", 1, 0, 3)))
	reads(t, "a: 1 # b\n", of(field("a", "1 # b", 1, 0, 3)))
	fault(t, " # x", form, 0)
	fault(t, "\t#", form, 0)
	fault(t, "a: 1\n\n # x", form, 6)
	fault(t, "a#: 1", form, 1)
	fault(t, "a # b: 1", form, 1)
	fault(t, "a: 1\n #\x01", form, 7)
}

// P15.1: where a text ends.
func TestEnds(t *testing.T) {
	a := field("ab", "c d", 1, 0, 4)
	for _, end := range []string{"", "\n", "\r\n", "\r", "\n\n", " ", "\t\n", " \r\n"} {
		reads(t, "ab: c d"+end, of(a))
		reads(t, "ab: c\n d"+end, of(a))
	}
	const s = "ab: c d\nef:\n g\n\nhi: j"
	for end := range len(s) + 1 {
		switch cut := s[:end]; {
		case slices.Contains([]int{1, 2}, end), slices.Contains([]int{9, 10}, end), slices.Contains([]int{17, 18}, end):
			fault(t, cut, short, end)
			fault(t, cut+"\n", short, end)
			fault(t, cut+"\r\n", short, end)
			fault(t, cut+"\r", short, end)
			fault(t, cut+"\r\r", form, end)
			fault(t, cut+"\n: x", short, end)
		default:
			if _, f := stanza.Parse(cut); f != (api.Fault{}) {
				t.Errorf("Parse(%q): %v", cut, f)
			}
		}
	}
	reads(t, s[:5], of(field("ab", "c", 1, 0, 4)))
	reads(t, s[:3], of(field("ab", "", 1, 0, 3)))
	reads(t, s[:4], of(field("ab", "", 1, 0, 4)))
	reads(t, s[:13], of(a, field("ef", "", 2, 8, 11)))
	reads(t, s, of(a, field("ef", "g", 2, 8, 11)), of(field("hi", "j", 5, 16, 20)))
}

// P15.1: lines that go on with none.
func TestGoesOnWithNone(t *testing.T) {
	for _, blank := range []string{" ", "\t", "  ", " \t"} {
		for _, rest := range []string{"x", "x\n", "#", "a: b", ":", "\x01", "\xff", "\rx", "x\na: b", "a\x00"} {
			line := blank + rest
			fault(t, line, form, 0)
			fault(t, "\n"+line, form, 1)
			fault(t, " \t\r\n"+line, form, 4)
			fault(t, "# c\n"+line, form, 4)
			fault(t, "# c\n\n# d\n"+line, form, 9)
			fault(t, "a: b\n\n"+line, form, 6)
			fault(t, "a: b\n \n"+line, form, 7)
			fault(t, "a: b\n c\n\r\n"+line, form, 10)
			fault(t, "a: b\n\n# c\n"+line, form, 10)
		}
	}
	reads(t, "a: b\n  x", of(field("a", "b x", 1, 0, 3)))
}

// P15.1: names.
func TestNames(t *testing.T) {
	n := strings.Repeat("n", 49)
	for _, name := range []string{"a", "z", "A", "Z", "a1", "a-", "a--", "A0-9z", "Requires-Dist", "x-Y-3", n[:47], n[:48], "N" + n[:47], "n" + strings.Repeat("-", 47), "n" + strings.Repeat("7", 47)} {
		low, k := strings.ToLower(name), len(name)
		reads(t, name+":", of(field(low, "", 1, 0, k+1)))
		reads(t, name+": v", of(field(low, "v", 1, 0, k+2)))
		reads(t, name+":v:w", of(field(low, "v:w", 1, 0, k+1)))
		reads(t, "b:\n"+name+":v\n\n"+name+":", of(field("b", "", 1, 0, 2), field(low, "v", 2, 3, 4+k)), of(field(low, "", 4, 7+k, 8+2*k)))
		// Without a colon, as the text's last line and as another one.
		fault(t, name, short, k)
		fault(t, name+"\n", short, k)
		fault(t, name+"\r\n", short, k)
		fault(t, "b: c\n"+name+"\nd: e\n", short, 5+k)
		fault(t, "b: c\n\n"+name+"\n :", short, 6+k)
		fault(t, name+"\n:", short, k)
		// A blank ahead of the colon, or ahead of the end.
		fault(t, name+" : v", form, k)
		fault(t, name+"\t:", form, k)
		fault(t, name+" ", form, k)
		fault(t, name+" v", form, k)
		fault(t, name+"\r: v", form, k)
	}
	for _, tail := range []string{"", ":", ": v", "\n", " : v", "n", "nnnn: v", ".", "n."} {
		fault(t, n+tail, long, 48)
		fault(t, "a: b\n"+n+tail, long, 53)
	}
	for _, last := range []string{"-", "0", "Z"} {
		fault(t, n[:48]+last+":", long, 48)
	}
	// Where the 49th byte can't stand in a name at all, that is told.
	for _, last := range []string{".", "_", " ", "\x00", "\xff", "#", "\r:"} {
		fault(t, n[:48]+last+":", form, 48)
	}
	fault(t, n[:47]+"."+n+":", form, 47)
}

// P15.1: bytes that a name can't have, at each of its places.
func TestBytesOfNames(t *testing.T) {
	letters, others := checks.Bytes('a', 'z', "")+checks.Bytes('A', 'Z', ""), "0123456789-"
	const name = "abc"
	for c := range 256 {
		b := string([]byte{byte(c)})
		for at := range len(name) + 1 {
			s := name[:at] + b + name[at:] + ": v"
			switch isLetter := strings.Contains(letters, b); {
			case isLetter || at > 0 && strings.Contains(others, b):
				reads(t, s, of(field(strings.ToLower(s[:4]), "v", 1, 0, 6)))
				reads(t, "\nx:\n"+s, of(field("x", "", 2, 1, 3), field(strings.ToLower(s[:4]), "v", 3, 4, 10)))
			case b == "\n" || b == ":" && at > 0 || at == 0 && strings.Contains("# \t", b):
				// These are no fault there, or another one, which other tests look for.
			default:
				fault(t, s, form, at)
				fault(t, "x: y\n"+s, form, 5+at)
				fault(t, s[:at+1]+"y", form, at)
			}
		}
	}
	fault(t, ":", form, 0)
	fault(t, ": v", form, 0)
	fault(t, "a: b\n: v", form, 5)
	fault(t, "a: b\n:\n", form, 5)
	fault(t, "a\n: v", short, 1)
	reads(t, "abc:", of(field("abc", "", 1, 0, 4)))
}
