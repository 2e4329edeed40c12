package stanza_test

import (
	"strings"
	"testing"

	"dovetail/api"
	"dovetail/checks"
)

// P15.1: values in one line.
func TestValues(t *testing.T) {
	for _, c := range []struct {
		behind string
		value  string
		from   int
	}{
		{"", "", 2}, {" ", "", 3}, {"\t", "", 3}, {" \t  ", "", 6}, {"\r", "", 2}, {"  \r", "", 4},
		{"v", "v", 2}, {" v", "v", 3}, {"\tv", "v", 3}, {" \t v", "v", 5}, {"v ", "v", 2}, {" v\t", "v", 3}, {"  v \t ", "v", 4}, {" v \r", "v", 3}, {"v\r", "v", 2},
		{" v w", "v w", 3}, {" v  w ", "v  w", 3}, {"v\tw", "v\tw", 2}, {" \tv \t w\t ", "v \t w", 4}, {"\tv\t\tw", "v\t\tw", 3},
		{":", ":", 2}, {" : :", ": :", 3}, {" b: c", "b: c", 3}, {" #", "#", 3}, {" ~!", "~!", 3}, {" -", "-", 3}, {" Ab", "Ab", 3},
	} {
		f := field("a", c.value, 1, 0, c.from)
		reads(t, "a:"+c.behind, of(f))
		reads(t, "a:"+c.behind+"\n", of(f))
		b := field("b", "x", 2, len(c.behind)+3, len(c.behind)+5)
		reads(t, "a:"+c.behind+"\nb:x", of(f, b))
		f.Line, f.At, f.From = 2, 1, c.from+1
		reads(t, "\na:"+c.behind, of(f))
		// With more behind it.
		f = field("a", strings.TrimSpace(c.value+" y"), 1, 0, c.from)
		reads(t, "a:"+c.behind+"\n y", of(f))
		reads(t, "a:"+strings.TrimSuffix(c.behind, "\r")+"\r\n\ty \r\n", of(f))
	}
	printable := checks.Bytes(33, 126, "") + " \t" + checks.Bytes(33, 126, "")
	reads(t, "a: "+printable, of(field("a", printable, 1, 0, 3)))
	reads(t, "a:\n "+printable+" ", of(field("a", printable, 1, 0, 2)))
}

// P15.1: values of several parts.
func TestParts(t *testing.T) {
	for s, want := range map[string]api.Field{
		"a: b\n c":               field("a", "b c", 1, 0, 3),
		"a: b \t\n \t c\t \n\td": field("a", "b c d", 1, 0, 3),
		"a:b\n  c  d\n e\tf\n g": field("a", "b c  d e\tf g", 1, 0, 2),
		"a:\n b":                 field("a", "b", 1, 0, 2),
		"a: \t\n b":              field("a", "b", 1, 0, 4),
		"a:  \r\n b\r\n c\r\n":   field("a", "b c", 1, 0, 4),
		"a:\n\tb\n c":            field("a", "b c", 1, 0, 2),
		"a: b,\n c,\n d":         field("a", "b, c, d", 1, 0, 3),
		"a: b\n c: d\n e:":       field("a", "b c: d e:", 1, 0, 3),
		"a: b\n :":               field("a", "b :", 1, 0, 3),
		"a: b\n .\n c":           field("a", "b . c", 1, 0, 3),
		"a: b\n#\n c":            field("a", "b c", 1, 0, 3),
		"a:\n# b: c\n d":         field("a", "d", 1, 0, 2),
		"a: \n#\n#\n b\n#\n c":   field("a", "b c", 1, 0, 3),
	} {
		reads(t, s, of(want))
		reads(t, s+"\n", of(want))
		end := len(s) - strings.Count(s[len(s)-1:], "\n")
		text := s[:end] + "\nb: x\n y"
		reads(t, text, of(want, field("b", "x y", 2+strings.Count(s[:end], "\n"), end+1, end+4)))
	}
	// A part in the middle without bytes ends the stanza, and what goes on behind it goes on with none.
	fault(t, "a: b\n\n c", form, 6)
	fault(t, "a: b\n \n c", form, 7)
	fault(t, "a: b\n c\n\t \r\n d", form, 12)
	fault(t, "a:\n\n b", form, 4)
	fault(t, "a: \n \n b", form, 6)
	many := "a:" + strings.Repeat("\n b", 20000)
	reads(t, many, of(field("a", strings.TrimSpace(strings.Repeat(" b", 20000)), 1, 0, 2)))
}

// P15.1: bytes that may not stand in a value, at each place, on a field's line and on one that goes on.
func TestBytesOfValues(t *testing.T) {
	const value = " vw "
	for c := range 256 {
		for at := range len(value) + 1 {
			s := value[:at] + string([]byte{byte(c)}) + value[at:]
			stripped := strings.Trim(s, " \t")
			switch {
			case 32 <= c && c <= 126 || c == 9:
				reads(t, "a:"+s, of(field("a", stripped, 1, 0, 2+strings.Index(s, stripped))))
				reads(t, "a: x\n "+s, of(field("a", "x "+stripped, 1, 0, 3)))
				reads(t, "a:\n\t"+s+"\n y", of(field("a", stripped+" y", 1, 0, 2)))
			case c == '\n', c == '\r' && at == len(value):
				// With these a line ends.
			default:
				for _, ahead := range []string{"a:", "b: x\na:", "a: x\n ", "a:\n\t", "b: x\n y\n ", "a: x\n# y\n ", "b: x\n\na: x\n "} {
					fault(t, ahead+s, form, len(ahead)+at)
					fault(t, ahead+s+"\nd\n :", form, len(ahead)+at)
					// Behind the first such byte none is told.
					fault(t, ahead+s+s, form, len(ahead)+at)
					fault(t, ahead+s+"\x00\xff", form, len(ahead)+at)
				}
			}
		}
	}
	for _, b := range []string{"\x1f", "\x7f", "\x80", "\xff", "\x00", "\v", "\f", "\u00e9", "\u00a0", "\ufeff"} {
		fault(t, "a:"+b, form, 2)
		fault(t, "a: "+b, form, 3)
		fault(t, "a: x "+b+"\n", form, 5)
		fault(t, "a:\n "+b, form, 4)
		fault(t, "a: x\n y"+b, form, 7)
		fault(t, "a: x\n y\n\t "+b+" z\n", form, 10)
		fault(t, "a: x\n y"+b+"\n z"+b, form, 7)
	}
	// A byte 13 stands at a line's end alone.
	reads(t, "a: x\r\n y\r", of(field("a", "x y", 1, 0, 3)))
	fault(t, "a: x\ry", form, 4)
	fault(t, "a: x\r\r\n", form, 4)
	fault(t, "a: \r y", form, 3)
	fault(t, "a:\ry\n", form, 2)
	fault(t, "a: x\n y\r z", form, 7)
	fault(t, "a: x\n \ry", form, 6)
	fault(t, "a: x\n y\r\r", form, 7)
}

// P15.1: of several faults the one that stands first.
func TestFirstFault(t *testing.T) {
	n := strings.Repeat("n", 49)
	wrong := []struct {
		line string
		err  api.Errno
		at   int
	}{
		{"a b: \x01", form, 1}, {"a: \x01\x02", form, 3}, {"a:b\x7f c:\x80", form, 3}, {"a", short, 1}, {n, long, 48}, {n + "\x01", long, 48}, {n + ": \x01", long, 48}, {n[:48], short, 48}, {n[:48] + ".", form, 48}, {"a." + n, form, 1}, {"9" + n, form, 0}, {":\x01", form, 0}, {"a \x01", form, 1}, {"\x01", form, 0},
	}
	for _, one := range wrong {
		fault(t, one.line, one.err, one.at)
		for _, two := range wrong {
			for _, ahead := range []string{"", "ok: x\n", "ok: x\n\n", "# c\n", "\n"} {
				fault(t, ahead+one.line+"\n"+two.line, one.err, len(ahead)+one.at)
				fault(t, ahead+one.line+"\n\n "+two.line, one.err, len(ahead)+one.at)
			}
		}
		fault(t, " x\n"+one.line, form, 0)
		fault(t, " "+one.line, form, 0)
		fault(t, one.line+"\n x", one.err, one.at)
		fault(t, "ok: x\n\x01y\n"+one.line, form, 6)
	}
}

// P15.1: where stanzas and fields stand.
func TestPlaces(t *testing.T) {
	reads(t, "# c\r\n\r\nA: 1\r\nB:\t\r\n 2\r\n# d\r\n 3\r\nC:4\r\n\t\r\n\n#\nD: 5",
		of(field("a", "1", 3, 7, 10), field("b", "2 3", 4, 13, 16), field("c", "4", 8, 31, 33)),
		of(field("d", "5", 12, 42, 45)))
	reads(t, "\n\nAb-1: x\n\n\n#\nAb-1:  y\nab-1:\n  z",
		of(field("ab-1", "x", 3, 2, 8)),
		of(field("ab-1", "y", 7, 14, 21), field("ab-1", "z", 8, 23, 28)))
	var want []api.Stanza
	text := ""
	for i := range 300 {
		at, line := len(text), 4*i+1
		text += "Name: x\nVersion:1\n y\n\n"
		want = append(want, of(field("name", "x", line, at, at+6), field("version", "1 y", line+1, at+8, at+16)))
	}
	reads(t, text, want...)
	reads(t, strings.TrimSuffix(text, "\n\n"), want...)
}
