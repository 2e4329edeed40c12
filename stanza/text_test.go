package stanza_test

import (
	"slices"
	"strings"
	"testing"

	"dovetail/api"
	"dovetail/checks"
	"dovetail/stanza"
)

// plain is a field whose places say nothing.
func plain(name, value string) api.Field { return api.Field{Name: name, Value: value} }

// writes checks what some stanzas' text is.
func writes(t *testing.T, want string, l ...api.Stanza) {
	t.Helper()
	if got := stanza.Text(l); got != want {
		t.Errorf("Text(%s) = %.80q, not %.80q", brief(l), got, want)
	}
}

// P15.3: stanzas that can be written.
func TestText(t *testing.T) {
	a, b, c := plain("a", "1"), plain("b-2", "x  y\tz"), plain("c", "")
	writes(t, "a: 1\n", of(a))
	writes(t, "c: \n", of(c))
	writes(t, "a: 1\nb-2: x  y\tz\nc: \n", of(a, b, c))
	writes(t, "a: 1\n\na: 1\n", of(a), of(a))
	writes(t, "c: \n\nb-2: x  y\tz\n\na: 1\nc: \n", of(c), of(b), of(a, c))
	writes(t, "a: 1\na: 1\na: #\na: :\na: a: b\n", of(a, a, plain("a", "#"), plain("a", ":"), plain("a", "a: b")))
	// Lines and places play no part.
	writes(t, "a: 1\nc: \n", api.Stanza{Line: -5, Fields: []api.Field{field("a", "1", 9, -9, 99), field("c", "", 0, 7, 1)}})
	l, _ := stanza.Parse("# c\n\nPackage:a\nDepends: b,\n c\n\n\nX:\n")
	writes(t, "package: a\ndepends: b, c\n\nx: \n", l...)
	printable := checks.Bytes(33, 126, "") + " \t" + checks.Bytes(33, 126, "")
	writes(t, "a: "+printable+"\n", of(plain("a", printable)))
	n := "n0-9" + strings.Repeat("z-", 22)
	writes(t, n+": v\nz: v\n", of(plain(n, "v"), plain("z", "v")))
}

// P15.3: stanzas that can't be.
func TestNoText(t *testing.T) {
	writes(t, "")
	if stanza.Text([]api.Stanza{}) != "" {
		t.Error("something of nothing")
	}
	a := of(plain("a", "1"))
	none := []api.Stanza{{}, {Line: 1}, {Line: 1, Fields: []api.Field{}}}
	for _, f := range []api.Field{
		plain("", "1"), plain("A", "1"), plain("aB", "1"), plain("abC", "1"), plain("1", "1"), plain("-", "1"), plain("-a", "1"), plain("9a", "1"), plain("a b", "1"), plain("a:", "1"), plain(" a", "1"), plain("a ", "1"), plain("#a", "1"), plain("a\n", "1"), plain("\u00e9", "1"), plain("k\u212a", "1"), plain(strings.Repeat("n", 49), "1"), plain(strings.Repeat("n", 500), ""),
		plain("a", " "), plain("a", "\t"), plain("a", " 1"), plain("a", "1 "), plain("a", "\t1"), plain("a", "1\t"), plain("a", "1\n"), plain("a", "1\n 2"), plain("a", "\n"), plain("a", "1\r"), plain("a", "\r"), plain("a", "\x1f"), plain("a", "\x7f"), plain("a", "\u00e9"), plain("a", "\x00"), {},
	} {
		x := of(f)
		none = append(none, x, of(a.Fields[0], f), of(f, a.Fields[0]), of(a.Fields[0], f, a.Fields[0]))
	}
	for _, x := range none {
		writes(t, "", x)
		writes(t, "", x, a)
		writes(t, "", a, x)
		writes(t, "", a, x, a)
		writes(t, "", x, x)
	}
}

// P15.3: each byte at each place of a name and of a value.
func TestBytesOfText(t *testing.T) {
	for c := range 256 {
		b := string([]byte{byte(c)})
		isLetter := 'a' <= c && c <= 'z'
		for at := range 4 {
			s := "abc"[:at] + b + "abc"[at:]
			want := ""
			if isLetter || at > 0 && ('0' <= c && c <= '9' || c == '-') {
				want = s + ": v\n"
			}
			writes(t, want, of(plain(s, "v")))
			want = ""
			if 33 <= c && c <= 126 || 0 < at && at < 3 && (c == ' ' || c == '\t') {
				want = "n: " + s + "\n"
			}
			writes(t, want, of(plain("n", s)))
		}
		want := ""
		if isLetter {
			want = b + ": \n"
		}
		writes(t, want, of(plain(b, "")))
	}
}

// P15.3: how long a text may be.
func TestLongText(t *testing.T) {
	const most = 65536
	x := strings.Repeat("x", 2*most)
	long := func(bytes int) api.Field { return plain("a", x[:bytes-len("a: \n")]) }
	for _, over := range []int{0, 1, 2, 9, 1000} {
		for _, l := range [][]api.Stanza{
			{of(long(most + over))},
			{of(long(most-4+over), plain("b", ""))},
			{of(plain("b", ""), long(most-4+over))},
			{of(plain("b", "")), of(long(most - 5 + over))},
			{of(long(most - 5 + over)), of(plain("b", ""))},
			{of(long(30000)), of(long(30000), plain("c", "d")), of(plain("e", "f"), long(most-60012+over))},
			{of(long(most-53+over), plain(strings.Repeat("n", 48), "vv"))},
		} {
			text := stanza.Text(l)
			if over > 0 && text != "" || over == 0 && len(text) != most {
				t.Errorf("%d more: Text has %d bytes", over, len(text))
			}
			if again, f := stanza.Parse(text); over == 0 && (f != (api.Fault{}) || !alike(again, l)) {
				t.Errorf("its text is read as %s, %v", brief(again), f)
			}
		}
	}
	// No byte is left for what stands behind.
	writes(t, "", of(long(most)), of(plain("b", "")))
	writes(t, "", of(long(most)), api.Stanza{})
	writes(t, "", of(long(most), plain("b", "")))
	// Each field's text has one byte more than it was read from.
	for count, told := range map[int]bool{16384: true, 16385: false, 21845: false} {
		l, f := stanza.Parse(strings.Repeat("a:\n", count))
		if text := stanza.Text(l); f != (api.Fault{}) || (text != "") != told || told && text != strings.Repeat("a: \n", count) {
			t.Errorf("of %d fields the text has %d bytes, %v", count, len(text), f)
		}
	}
	// One value in many fields: far more bytes than are handed in.
	many := slices.Repeat([]api.Field{long(most / 2)}, 1<<20)
	writes(t, "", of(many...))
	writes(t, "", slices.Repeat([]api.Stanza{of(many...)}, 1000)...)
	writes(t, "", of(plain(strings.Repeat("n", 1<<20), strings.Repeat(x, 100))))
}
