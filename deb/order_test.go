package deb_test

import (
	"cmp"
	"math/big"
	"regexp"
	"slices"
	"strings"
	"testing"

	"dovetail/api"
	"dovetail/checks"
	"dovetail/deb"
)

// partLadder is parts, each one ahead of the next.
func partLadder() []string {
	return []string{
		"~~", "~~a", "~", "~1", "~a", "~.", "",
		"1~~", "1~", "1~0a", "1~1", "1~rc", "1~rc1", "1", "1A", "1Z", "1a~", "1a", "1a1", "1aA", "1aa", "1a.", "1z",
		"1\x00", "1 ", "1+", "1-", "1.~", "1.", "1.1~1", "1.1", "1.2", "1.9", "1.10", "1.10a", "1.10.", "1." + far, "1." + farther, "1." + farther + "0", "1.A", "1.a", "1..", "1:", "1_", "1{", "1\x7f", "1\x80", "1\xff",
		"2", "9", "10", far, farther, farther + "0",
		"A", "Z", "a~", "a", "a1", "aa", "a.", "z", "\x00", "+", "-", ".", ".1", "..", ":", "\xff",
	}
}

// P4.3
func TestPart(t *testing.T) {
	for _, wrong := range checks.Rising(partLadder(), deb.Part) {
		t.Error("Part: " + wrong)
	}
	same := [][]string{
		{"", "0", "000"}, {"1", "01", "0001"}, {"a", "a0", "a00"}, {"1.", "1.0", "01.00"}, {"1.2", "1.02", "01.002"}, {"1a2b", "1a02b0"}, {"~", "~0", "~00"}, {"0~", "00~", "0~000"}, {"a.b", "a.b0", "a.b000"},
		{far, "0" + far}, {farther + "a" + farther, "00" + farther + "a0" + farther}, {strings.Repeat("9", 500), strings.Repeat("0", 300) + strings.Repeat("9", 500)},
	}
	for _, wrong := range checks.Alike(same, deb.Part) {
		t.Error("Part: " + wrong)
	}
	for _, c := range []struct {
		a, b string
		want int
	}{
		{"a0b", "ab", -1}, {"1a", "1.", -1}, {"1.a", "1.1", 1}, {"a", "1", 1}, {"~", "0", -1}, {"~", "1", -1}, {"0~", "~1", 1}, {"a.b", "0a.b", 1}, {"1.0~~", "1.0~", -1}, {"1.0~", "1.0a~", -1},
		{strings.Repeat("9", 500), "1" + strings.Repeat("0", 500), -1}, {strings.Repeat("a", 500) + "~", strings.Repeat("a", 500), -1}, {strings.Repeat("1.", 5000), strings.Repeat("1.", 4999) + "2", -1},
	} {
		if deb.Part(c.a, c.b) != c.want || deb.Part(c.b, c.a) != -c.want {
			t.Errorf("Part(%q, %q) = %d", c.a, c.b, deb.Part(c.a, c.b))
		}
	}
}

// place is where a byte that is no digit stands: what is ahead of the end is below 0.
func place(c byte) int {
	ordered := "ABCDEFGHIJKLMNOPQRSTUVWXYZabcdefghijklmnopqrstuvwxyz"
	if at := strings.IndexByte(ordered, c); at >= 0 {
		return at + 1
	}
	if c == '~' {
		return -1
	}
	return 1000 + int(c)
}

var rowsForm = regexp.MustCompile(`(?s)^([^0-9]*)([0-9]*)`)

// wantedPart is P4.3 by its words, over rows that are found by a form.
func wantedPart(a, b string) int {
	for a != "" || b != "" {
		x, y := rowsForm.FindStringSubmatch(a), rowsForm.FindStringSubmatch(b)
		a, b = a[len(x[0]):], b[len(y[0]):]
		for i := range max(len(x[1]), len(y[1])) {
			p, q := 0, 0
			if i < len(x[1]) {
				p = place(x[1][i])
			}
			if i < len(y[1]) {
				q = place(y[1][i])
			}
			if p != q {
				return cmp.Compare(p, q)
			}
		}
		m, _ := new(big.Int).SetString("0"+x[2], 10)
		n, _ := new(big.Int).SetString("0"+y[2], 10)
		if c := m.Cmp(n); c != 0 {
			return c
		}
	}
	return 0
}

// P4.3 by its words.
func TestPartEverywhere(t *testing.T) {
	parts := slices.Concat(checks.Texts("019aZ~.", 3), partLadder(), []string{"1.0~rc1", "1.00~rc01", "2.0+b1", "a10b2~c", farther + "x", "0" + farther + "x1"})
	for _, a := range parts {
		for _, b := range parts {
			if got, want := deb.Part(a, b), wantedPart(a, b); got != want {
				t.Fatalf("Part(%q, %q) = %d, not %d", a, b, got, want)
			}
		}
	}
}

// P4.3: each byte against each, and against the end.
func TestPartBytes(t *testing.T) {
	digit := func(c int) bool { return '0' <= c && c <= '9' }
	for c := range 256 {
		if digit(c) {
			continue
		}
		one := string([]byte{byte(c)})
		if got, want := deb.Part("1"+one, "1"), cmp.Compare(place(byte(c)), 0); got != want {
			t.Errorf("%q to the end is %d", one, got)
		}
		for d := range 256 {
			other := string([]byte{byte(d)})
			if digit(d) {
				continue
			}
			if got, want := deb.Part("1"+one, "1"+other), cmp.Compare(place(byte(c)), place(byte(d))); got != want {
				t.Errorf("%q to %q is %d", one, other, got)
			}
		}
	}
}

// ladder is versions, each one ahead of the next.
func ladder() []string {
	return []string{
		"0~~", "0~", "0~1", "0-~", "0", "0-1", "0a", "0.", "0.1",
		"1.0~rc1", "1.0~rc2", "1.0~rc10", "1.0-~1", "1.0", "1.0-0a", "1.0-1~", "1.0-1", "1.0-1a", "1.0-1+b1", "1.0-1.1", "1.0-2", "1.0-10", "1.0-" + far, "1.0-" + farther, "1.0-a", "1.0-.",
		"1.0a", "1.0a-1", "1.0b", "1.0+b1", "1.0-1-1", "1.0.1", "1.2", "1.10", "1." + far, "1." + farther, "1.a", "2", "9", "10", far, farther,
		"1:0~", "1:0", "1:0.1", "1:2-3-4", "1:2.0", "1:2:3", "1:2:3-4", "1:2:10", "2:0", "10:0", far + ":0", farther + ":0", farther + ":0-1",
	}
}

// P4.4
func TestOrder(t *testing.T) {
	order := func(a, b string) int { return deb.Order(mustParse(t, a), mustParse(t, b)) }
	for _, wrong := range checks.Rising(ladder(), order) {
		t.Error("Order: " + wrong)
	}
	same := [][]string{
		{"1", "0:1", "000:1", "1-0", "01-00", "0:001-0"}, {"1:2", "01:2", "0001:02-0"}, {"1.002", "1.2"}, {"1-a", "1-a0"}, {"1.", "1.0", "1.-0"},
		{"1:2:3", "01:2:03-0"}, {farther + ":1", "0" + farther + ":1"}, {"0:1:2", "00:1:02"},
	}
	for _, wrong := range slices.Concat(checks.Alike(same, order), checks.Alike(same, deb.Compare)) {
		t.Error("Order, Compare: " + wrong)
	}
}

// P4.4: of what is not fit nothing is ahead.
func TestOrderOfUnfit(t *testing.T) {
	for _, v := range unfit() {
		for _, s := range []string{"0~", "1", "1.0-1", "1:2:3-4", "99:0"} {
			w := mustParse(t, s)
			if deb.Order(v, w) != 0 || deb.Order(w, v) != 0 || deb.Order(v, v) != 0 {
				t.Errorf("Order of %q and %q", v, w)
			}
		}
	}
	low, high := api.DebVer{Epoch: "0", Upstream: "1-1"}, api.DebVer{Epoch: "0", Upstream: "1-2"}
	if deb.Order(low, high) != 0 || deb.Order(high, low) != 0 {
		t.Error("Order of two that are not fit")
	}
}

// noVersions is texts that are none, rising byte by byte.
func noVersions() []string {
	return []string{"", " ", "-1", "1 ", "1-", "1-2:3", "1:", "1:2-3:4", "1:a", "1_2", strings.Repeat("9", 65), "99:", "a", "a1", "b", "~1", "\xff"}
}

// P4.5
func TestCompare(t *testing.T) {
	for _, wrong := range checks.Rising(append(noVersions(), ladder()...), deb.Compare) {
		t.Error("Compare: " + wrong)
	}
	for _, none := range noVersions() {
		if deb.Compare(none, none) != 0 {
			t.Errorf("%q is not like itself", none)
		}
	}
	// As versions they would be alike, or the other way round.
	if deb.Compare("1-", "01-") != 1 || deb.Compare("10:", "9:") != -1 || deb.Compare("1_~", "1_") != 1 {
		t.Error("what is none is not compared byte by byte")
	}
}

// P4.9
func TestOrders(t *testing.T) {
	versions := slices.Concat(noVersions(), ladder(), []string{"01.0", "0:1.0", "1.0-0", "1.00", "1:02:3", "01:2:3", "1.0~rc01", "1.-0"})
	for _, s := range checks.Texts("1a~-:", 3) {
		versions = append(versions, s, "1"+s)
	}
	for _, wrong := range checks.Order(versions, deb.Compare) {
		t.Error("Compare: " + wrong)
	}
	parts := slices.Concat(partLadder(), checks.Texts("01a~.", 3))
	for _, wrong := range checks.Order(parts, deb.Part) {
		t.Error("Part: " + wrong)
	}
}

// P4.10: with "~" behind it a part, and so a version, is ahead of itself.
func TestTildeIsAhead(t *testing.T) {
	parts := append(partLadder(), checks.Texts("01a~.", 3)...)
	for _, part := range parts {
		for _, tail := range append(checks.Texts("1a~.", 2), farther, "\xff\x00") {
			if deb.Part(part+"~"+tail, part) != -1 || deb.Part(part, part+"~"+tail) != 1 {
				t.Errorf("%q is not ahead of %q", part+"~"+tail, part)
			}
		}
	}
	for _, s := range ladder() {
		for _, tail := range []string{"", "0", "1", "a", "~", ".", "+"} {
			if deb.Compare(s+"~"+tail, s) != -1 || deb.Compare(s, s+"~"+tail) != 1 {
				t.Errorf("%q is not ahead of %q", s+"~"+tail, s)
			}
		}
	}
}

// P4.10: with zeros laid ahead of a number in it a part, and so a version, is alike.
func TestZerosAhead(t *testing.T) {
	number := regexp.MustCompile(`[0-9]+`)
	laid := func(s string, compare func(a, b string) int) {
		for _, at := range number.FindAllStringIndex(s, -1) {
			for _, zeros := range []string{"0", "00", "0000"} {
				if other := s[:at[0]] + zeros + s[at[0]:]; compare(s, other) != 0 || compare(other, s) != 0 {
					t.Errorf("%q is not like %q", other, s)
				}
			}
		}
		if all := number.ReplaceAllString(s, "000$0"); compare(s, all) != 0 || compare(all, s) != 0 {
			t.Errorf("%q is not like %q", all, s)
		}
	}
	for _, s := range append(partLadder(), checks.Texts("01a~.", 4)...) {
		laid(s, deb.Part)
	}
	for _, s := range ladder() {
		laid(s, deb.Compare)
	}
}
