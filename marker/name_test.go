package marker_test

import (
	"regexp"
	"slices"
	"strings"
	"testing"

	"dovetail/checks"
	"dovetail/marker"
)

var (
	nameForm = regexp.MustCompile(`^[A-Za-z0-9]([A-Za-z0-9._-]{0,46}[A-Za-z0-9])?$`)
	markRuns = regexp.MustCompile(`[-_.]+`)
)

// wantedName is P11.2 by its words.
func wantedName(s string) (string, bool) {
	if !nameForm.MatchString(s) {
		return "", false
	}
	return markRuns.ReplaceAllString(strings.ToLower(s), "-"), true
}

// P11.2
func TestName(t *testing.T) {
	letters := strings.Repeat("Ab", 24)
	for s, want := range map[string]string{
		"a": "a", "Z": "z", "0": "0", "a1": "a1", "1a": "1a", "Foo.Bar": "foo-bar", "y_z": "y-z", "a-b": "a-b", "a--b": "a-b", "a-_.b": "a-b", "A._-_.B": "a-b", "a.b_c-d": "a-b-c-d", "0.0": "0-0", "FOO": "foo",
		letters: strings.ToLower(letters), "a" + strings.Repeat(".", 46) + "b": "a-b", "a" + strings.Repeat("_B", 23) + "c": "a" + strings.Repeat("-b", 23) + "c",
	} {
		if got, ok := marker.Name(s); got != want || !ok {
			t.Errorf("Name(%q) = %q, %v", s, got, ok)
		}
	}
	for _, s := range []string{
		"", "-", "_", ".", "-a", "_a", ".a", "a-", "a_", "a.", "-a-", "a.-", " a", "a ", "\ta", "a\n", "a b", "a[b]", "a,b", "a;b", "a+b", "a/b", "a@b", "a:b", "\xc3\xa9", "a\xff", "a\x00b", "\u212a", "a\u017f",
		letters + "A", "a" + strings.Repeat("-", 47) + "b", strings.Repeat("a", 1<<16),
	} {
		if got, ok := marker.Name(s); got != "" || ok {
			t.Errorf("Name(%q) = %q, %v", s, got, ok)
		}
	}
}

// P11.2 by its words, and P11.7.
func TestNameEverywhere(t *testing.T) {
	all := slices.Concat(checks.Texts("aZ0-_. ", 5), checks.Rows([]string{strings.Repeat("a", 23), "B", "-", "_.", "9"}, 5))
	for c := range 256 {
		b := string([]byte{byte(c)})
		all = append(all, b, "a"+b, b+"a", "a"+b+"b", "a-"+b+"b")
	}
	names := 0
	for _, s := range all {
		got, ok := marker.Name(s)
		if want, is := wantedName(s); got != want || ok != is {
			t.Errorf("Name(%q) = %q, %v", s, got, ok)
		}
		if again, still := marker.Name(got); again != got || still != ok {
			t.Errorf("Name(%q) = %q, whose own is %q, %v", s, got, again, still)
		}
		if ok {
			names++
		}
	}
	if names < 1000 {
		t.Errorf("only %d names", names)
	}
}

// variables is the chapter's list.
func variables() []string {
	return strings.Fields("os_name sys_platform platform_machine platform_python_implementation platform_release platform_system platform_version python_version python_full_version implementation_name implementation_version extra")
}

// P11.2
func TestVars(t *testing.T) {
	l := marker.Vars()
	if !slices.Equal(l, variables()) {
		t.Errorf("Vars = %q", l)
	}
	clear(l[:cap(l)])
	if l := marker.Vars(); !slices.Equal(l, variables()) {
		t.Errorf("Vars = %q then", l)
	}
}
