package marker_test

import (
	"regexp"
	"slices"
	"strings"
	"testing"

	"dovetail/api"
	"dovetail/checks"
	"dovetail/marker"
)

// sets checks what an environment's text is read as.
func sets(t *testing.T, s string, want ...string) {
	t.Helper()
	if env, f := marker.Env(s); f != (api.Fault{}) || !slices.Equal(env, set(want...)) {
		t.Errorf("Env(%q) = %q, %v", s, env, f)
	}
}

// setsNot checks where environments' texts go wrong.
func setsNot(t *testing.T, wanted map[string]api.Fault) {
	t.Helper()
	for s, want := range wanted {
		if env, f := marker.Env(s); f != want || len(env) > 0 {
			t.Errorf("Env(%q) = %q, %v, not %v", s, env, f, want)
		}
	}
}

// P11.1: environments.
func TestEnv(t *testing.T) {
	for _, s := range []string{"", "\n", " ", "\t \n\n  \n", "#", "# os_name=x", " \t#x\n#\n#=\x7f\xff", "\r\n\r\n", "#\r", "\r"} {
		sets(t, s)
	}
	for _, v := range variables()[:11] {
		sets(t, v+"=x", v, "x")
		sets(t, " \t"+v+"=x\t \n", v, "x")
	}
	sets(t, "os_name=posix\npython_version=3.10", "os_name", "posix", "python_version", "3.10")
	sets(t, "python_version=3.10\r\n\n# x\r\n  os_name=posix\r\n", "python_version", "3.10", "os_name", "posix")
	sets(t, "os_name=", "os_name", "")
	sets(t, "os_name= \t\nsys_platform=\r\n", "os_name", "", "sys_platform", "")
	sets(t, "os_name==", "os_name", "=")
	sets(t, "os_name=a=b==c", "os_name", "a=b==c")
	sets(t, "os_name=a b  c ", "os_name", "a b  c")
	sets(t, "os_name=  a", "os_name", "  a")
	sets(t, "os_name=x # y", "os_name", "x # y")
	sets(t, "os_name='x'\nsys_platform=\"", "os_name", "'x'", "sys_platform", `"`)
	sets(t, "os_name=extra\nsys_platform=os_name", "os_name", "extra", "sys_platform", "os_name")
	var printed []byte
	for c := byte(33); c < 127; c++ {
		printed = append(printed, c)
	}
	sets(t, "os_name=! "+string(printed), "os_name", "! "+string(printed))
	var lines, want []string
	for _, v := range all() {
		lines, want = append(lines, v.Name+"="+v.Value), append(want, v.Name, v.Value)
	}
	sets(t, strings.Join(lines, "\n"), want...)
}

// P11.1: faults of environments.
func TestFaultsOfEnv(t *testing.T) {
	setsNot(t, map[string]api.Fault{
		"foo=x": {Err: word, At: 0}, "extra=x": {Err: word, At: 0}, " extra": {Err: word, At: 1}, "=x": {Err: word, At: 0}, "=": {Err: word, At: 0}, "\t=": {Err: word, At: 1}, "os_name =x": {Err: word, At: 0}, "os_name\t=x": {Err: word, At: 0}, "os name=x": {Err: word, At: 0}, "OS_NAME=x": {Err: word, At: 0}, "os_nam": {Err: word, At: 0}, "os_name x": {Err: word, At: 0}, "os_name:x": {Err: word, At: 0}, "os_name#=x": {Err: word, At: 0}, "os_name\x00=x": {Err: word, At: 0}, "\xff": {Err: word, At: 0}, "\vos_name=x": {Err: word, At: 0}, "x": {Err: word, At: 0}, "os_name=x\n  foo": {Err: word, At: 12}, "os_name=x\r\nextra=y": {Err: word, At: 11}, "os_name\r=x": {Err: word, At: 0}, "\ros_name=x": {Err: word, At: 0}, "os_name\r\r\n": {Err: word, At: 0},
		"os_name=x\nos_name=x": {Err: twice, At: 10}, "os_name=x\n\n \tos_name=y": {Err: twice, At: 13}, "os_name=\nos_name=": {Err: twice, At: 9}, "os_name=x\nsys_platform=y\nos_name=z\nsys_platform=y": {Err: twice, At: 25},
		"os_name": {Err: short, At: 7}, " os_name \t": {Err: short, At: 8}, "os_name\n": {Err: short, At: 7}, "os_name\r\n": {Err: short, At: 7}, "os_name \r\nfoo": {Err: short, At: 7}, "sys_platform=x\n\tos_name": {Err: short, At: 23},
		"os_name=\x1f": {Err: form, At: 8}, "os_name=a\x7fb": {Err: form, At: 9}, "os_name=a\tb": {Err: form, At: 9}, "os_name=\tb": {Err: form, At: 8}, "os_name=a\x80": {Err: form, At: 9}, "os_name=\xff\x1f": {Err: form, At: 8}, "  os_name=ab\x00\n": {Err: form, At: 12}, "os_name=a\rb": {Err: form, At: 9}, "os_name=a\r\r\n": {Err: form, At: 9}, "os_name=a\r \n": {Err: form, At: 9}, "os_name=x\nsys_platform=\xc3\xa9": {Err: form, At: 23}, "os_name=\v": {Err: form, At: 8},
		// Of several faults of a line that which is named first, of several lines the first one's.
		"foo=\x1f": {Err: word, At: 0}, "extra=x\nextra=x": {Err: word, At: 0}, "os_name=x\nos_name": {Err: twice, At: 10}, "os_name=x\nos_name=\x1f": {Err: twice, At: 10}, "os_name=\x1f\nfoo": {Err: form, At: 8}, "os_name\nos_name=x": {Err: short, At: 7}, "foo\nos_name": {Err: word, At: 0}, "os_name=x\nfoo\nos_name=x": {Err: word, At: 10}, "os_name\x1f": {Err: word, At: 0},
	})
}

// P11.1: the bytes of an environment.
func TestLengthOfEnv(t *testing.T) {
	value := strings.Repeat("x", api.MaxText-len("os_name="))
	sets(t, "os_name="+value, "os_name", value)
	sets(t, strings.Repeat("\n", api.MaxText))
	sets(t, "#"+strings.Repeat("\xff", api.MaxText-1))
	setsNot(t, map[string]api.Fault{
		"os_name=" + value + "x":                     {Err: long, At: 65536},
		strings.Repeat("\n", api.MaxText+1):          {Err: long, At: 65536},
		"foo" + strings.Repeat(" ", api.MaxText):     {Err: long, At: 65536},
		"os_name=x\nos_name=" + value:                {Err: long, At: 65536},
		"\x1f" + strings.Repeat("x", 1<<20):          {Err: long, At: 65536},
		"os_name=" + value[1:] + "\x7f":              {Err: form, At: 65535},
		"os_name" + strings.Repeat(" ", 65536-7):     {Err: short, At: 7},
		strings.Repeat(" ", api.MaxText-1) + "x":     {Err: word, At: 65535},
		strings.Repeat("#\n", api.MaxText/2-1) + "x": {Err: word, At: 65534},
	})
}

var (
	saysNothing = regexp.MustCompile(`^[ \t]*(#|$)`)
	envLine     = regexp.MustCompile(`(?s)^([ \t]*)([^=]*?)(=(.*?))?([ \t]*)$`)
	notPrinted  = regexp.MustCompile(`[^ -~]`)
)

// wantedEnv is P11.1 of Env by its words, where no byte is above 127.
func wantedEnv(s string) ([]api.Var, api.Fault) {
	var env []api.Var
	at := 0
	for _, line := range strings.SplitAfter(s, "\n") {
		parts := strings.TrimSuffix(strings.TrimSuffix(line, "\n"), "\r")
		start := at
		at += len(line)
		if saysNothing.MatchString(parts) {
			continue
		}
		m := envLine.FindStringSubmatch(parts)
		start += len(m[1])
		wrong := notPrinted.FindStringIndex(m[4])
		switch {
		case !slices.Contains(variables()[:11], m[2]):
			return nil, api.Fault{Err: word, At: start}
		case slices.ContainsFunc(env, func(v api.Var) bool { return v.Name == m[2] }):
			return nil, api.Fault{Err: twice, At: start}
		case m[3] == "":
			return nil, api.Fault{Err: short, At: start + len(m[2])}
		case wrong != nil:
			return nil, api.Fault{Err: form, At: start + len(m[2]) + 1 + wrong[0]}
		}
		env = append(env, api.Var{Name: m[2], Value: m[4]})
	}
	return env, api.Fault{}
}

// P11.1 of Env by its words.
func TestEnvEverywhere(t *testing.T) {
	kinds := map[api.Errno]int{}
	for _, s := range slices.Concat(
		checks.Rows([]string{"os_name", "=", "\n", " ", "x", "#"}, 6),
		checks.Rows([]string{"os_name=x", "sys_platform", "=", "\r", "\n", "\t", "extra"}, 5),
		checks.Rows([]string{"python_version=3", "\r\n", "\x1f", "~", "\x7f", "platform_system= "}, 5),
	) {
		env, f := marker.Env(s)
		if want, wrong := wantedEnv(s); f != wrong || !slices.Equal(env, want) {
			t.Fatalf("Env(%q) = %q, %v, not %q, %v", s, env, f, want, wrong)
		}
		kinds[f.Err]++
	}
	for _, err := range []api.Errno{api.OK, form, short, word, twice} {
		if kinds[err] < 50 {
			t.Errorf("only %d texts of the kind %d", kinds[err], err)
		}
	}
}
