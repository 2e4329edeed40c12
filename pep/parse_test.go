package pep_test

import (
	"regexp"
	"strings"
	"testing"

	"dovetail/api"
	"dovetail/checks"
	"dovetail/pep"
)

// P3.1: versions, normalised.
func TestParse(t *testing.T) {
	digits := strings.Repeat("9", 60)
	pre := func(letter byte, number string) api.Pep {
		return with(release("1", "0"), func(v *api.Pep) { v.Pre, v.PreNum = letter, number })
	}
	post := func(number string) api.Pep {
		return with(release("1", "0"), func(v *api.Pep) { v.Post, v.PostNum = true, number })
	}
	dev := func(number string) api.Pep {
		return with(release("1", "0"), func(v *api.Pep) { v.Dev, v.DevNum = true, number })
	}
	local := func(parts ...string) api.Pep { return with(release("1", "0"), func(v *api.Pep) { v.Local = parts }) }
	for s, want := range map[string]api.Pep{
		"1": release("1"), "0": release("0"), "00": release("0"), "1.0": release("1", "0"), "01.002.000": release("1", "2", "0"),
		"v1": release("1"), "V1": release("1"), "v1.0": release("1", "0"),
		"1!2": {Epoch: "1", Release: []string{"2"}}, "0!2": release("2"), "00!2": release("2"), "007!2.0": {Epoch: "7", Release: []string{"2", "0"}}, "v1!2": {Epoch: "1", Release: []string{"2"}}, "V12!3": {Epoch: "12", Release: []string{"3"}},
		farther + "!" + far: {Epoch: farther, Release: []string{far}},

		"1.0a1": pre('a', "1"), "1.0a": pre('a', "0"), "1.0alpha": pre('a', "0"), "1.0alpha1": pre('a', "1"), "1.0ALPHA1": pre('a', "1"), "1.0-a": pre('a', "0"), "1.0_A_01": pre('a', "1"), "1.0.alpha.1": pre('a', "1"), "1.0-alpha-1": pre('a', "1"), "1.0a_1": pre('a', "1"), "1.0a-1": pre('a', "1"), "1.0a.1": pre('a', "1"), "1.0a00": pre('a', "0"),
		"1.0b2": pre('b', "2"), "1.0beta2": pre('b', "2"), "1.0.BeTa": pre('b', "0"), "1.0-b": pre('b', "0"),
		"1.0rc1": pre('r', "1"), "1.0c1": pre('r', "1"), "1.0pre1": pre('r', "1"), "1.0preview1": pre('r', "1"), "1.0_preview_1": pre('r', "1"), "1.0.RC": pre('r', "0"), "1.0-pre": pre('r', "0"), "1.0-C": pre('r', "0"), "1.0rc." + "01": pre('r', "1"), "1.0rc" + farther: pre('r', farther),

		"1.0-1": post("1"), "1.0-01": post("1"), "1.0-0": post("0"), "1.0-" + far: post(far), "1.0.post1": post("1"), "1.0post1": post("1"), "1.0-post1": post("1"), "1.0_post_1": post("1"), "1.0.post.1": post("1"), "1.0post-1": post("1"), "1.0POST": post("0"), "1.0.post": post("0"), "1.0r": post("0"), "1.0r1": post("1"), "1.0-r1": post("1"), "1.0.R-1": post("1"), "1.0rev": post("0"), "1.0_rev007": post("7"), "1.0rev.2": post("2"), "v1.0-1": post("1"),

		"1.0.dev1": dev("1"), "1.0dev": dev("0"), "1.0-dev": dev("0"), "1.0_DEV_1": dev("1"), "1.0dev-1": dev("1"), "1.0.dev.01": dev("1"), "1.0.dev": dev("0"),

		"1.0+a": local("a"), "1.0+A": local("a"), "1.0+1": local("1"), "1.0+01": local("1"), "1.0+000": local("0"), "1.0+0a": local("0a"), "1.0+00A": local("00a"), "1.0+a0": local("a0"), "1.0+Ubuntu_01": local("ubuntu", "1"), "1.0+a.b-c_d": local("a", "b", "c", "d"), "1.0+1.02.x3": local("1", "2", "x3"), "1.0+dev-1": local("dev", "1"), "1.0+v": local("v"), "1.0+" + farther: local(farther), "1.0+00" + far + "-x": local(far, "x"),

		"1a1.post2.dev3+x.4":        {Epoch: "0", Release: []string{"1"}, Pre: 'a', PreNum: "1", Post: true, PostNum: "2", Dev: true, DevNum: "3", Local: []string{"x", "4"}},
		"1a-1-2-dev-3":              {Epoch: "0", Release: []string{"1"}, Pre: 'a', PreNum: "1", Post: true, PostNum: "2", Dev: true, DevNum: "3"},
		"1arevdev":                  {Epoch: "0", Release: []string{"1"}, Pre: 'a', PreNum: "0", Post: true, PostNum: "0", Dev: true, DevNum: "0"},
		"1rcr":                      {Epoch: "0", Release: []string{"1"}, Pre: 'r', PreNum: "0", Post: true, PostNum: "0"},
		"1rc-r":                     {Epoch: "0", Release: []string{"1"}, Pre: 'r', PreNum: "0", Post: true, PostNum: "0"},
		"1a.dev":                    {Epoch: "0", Release: []string{"1"}, Pre: 'a', PreNum: "0", Dev: true, DevNum: "0"},
		"1-1dev":                    {Epoch: "0", Release: []string{"1"}, Post: true, PostNum: "1", Dev: true, DevNum: "0"},
		"1-0.dev2+1-1":              {Epoch: "0", Release: []string{"1"}, Post: true, PostNum: "0", Dev: true, DevNum: "2", Local: []string{"1", "1"}},
		"1.0.1-1":                   {Epoch: "0", Release: []string{"1", "0", "1"}, Post: true, PostNum: "1"},
		"V9!1_C_1-R-2.DEV_3+A.01-b": {Epoch: "9", Release: []string{"1"}, Pre: 'r', PreNum: "1", Post: true, PostNum: "2", Dev: true, DevNum: "3", Local: []string{"a", "1", "b"}},

		digits + "9999":                       release(digits + "9999"),
		"1.0." + digits:                       release("1", "0", digits),
		"1.0+" + digits:                       local(digits),
		strings.Repeat("0", 63) + "7":         release("7"),
		"1!" + strings.Repeat("0", 61) + "1":  {Epoch: "1", Release: []string{"1"}},
		"1.0" + "-" + strings.Repeat("0", 60): post("0"),
	} {
		v, f := pep.Parse(s)
		if f != (api.Fault{}) || !alike(v, want) || !pep.Fit(v) {
			t.Errorf("Parse(%q) = %+v, %v, not %+v", s, v, f, want)
		}
	}
}

// P3.1: what is none, and where.
func TestParseFaults(t *testing.T) {
	form, short, long := api.ErrForm, api.ErrShort, api.ErrLong
	for s, want := range map[string]api.Fault{
		"": {Err: short, At: 0}, "v": {Err: short, At: 1}, "V": {Err: short, At: 1}, "1!": {Err: short, At: 2}, "v1!": {Err: short, At: 3}, "1.0+": {Err: short, At: 4}, "1a+": {Err: short, At: 3}, "1.0.dev1+": {Err: short, At: 9},

		"x": {Err: form, At: 0}, "!": {Err: form, At: 0}, "!1": {Err: form, At: 0}, ".1": {Err: form, At: 0}, "-1": {Err: form, At: 0}, " 1": {Err: form, At: 0}, "a1": {Err: form, At: 0}, "+1": {Err: form, At: 0}, "\xff": {Err: form, At: 0}, "\x00": {Err: form, At: 0},
		"vv1": {Err: form, At: 1}, "v.1": {Err: form, At: 1}, "v!1": {Err: form, At: 1}, "v-1": {Err: form, At: 1}, "1v": {Err: form, At: 1},
		"1!v2": {Err: form, At: 2}, "1!.2": {Err: form, At: 2}, "1!!2": {Err: form, At: 2}, "1!a": {Err: form, At: 2}, "1!2!3": {Err: form, At: 3}, "1.0!2": {Err: form, At: 3}, "1 !2": {Err: form, At: 1},

		"1.": {Err: form, At: 1}, "1..0": {Err: form, At: 1}, "1.0.": {Err: form, At: 3}, "1.0.x": {Err: form, At: 3}, "1.0-": {Err: form, At: 3}, "1.0_": {Err: form, At: 3}, "1_0": {Err: form, At: 1}, "1.0x": {Err: form, At: 3}, "1.0 ": {Err: form, At: 3}, "1.0\n": {Err: form, At: 3}, "1.0\x00": {Err: form, At: 3}, "1.0\xe2\x84\xaa": {Err: form, At: 3}, "1.0*": {Err: form, At: 3}, "1.0.*": {Err: form, At: 3}, "1.0/": {Err: form, At: 3}, "1.0:": {Err: form, At: 3},
		"1--1": {Err: form, At: 1}, "1-.1": {Err: form, At: 1}, "1_1": {Err: form, At: 1}, "1-1-1": {Err: form, At: 3}, "1-1.1": {Err: form, At: 3}, "1-x": {Err: form, At: 1}, "1--a": {Err: form, At: 1}, "1..a": {Err: form, At: 1},

		"1a-": {Err: form, At: 2}, "1a.": {Err: form, At: 2}, "1a_": {Err: form, At: 2}, "1a--1": {Err: form, At: 2}, "1a.-1": {Err: form, At: 2}, "1a..1": {Err: form, At: 2}, "1a1.": {Err: form, At: 3}, "1a1.2": {Err: form, At: 3}, "1a1_2": {Err: form, At: 3}, "1a1b": {Err: form, At: 3}, "1a1a1": {Err: form, At: 3}, "1ab": {Err: form, At: 2}, "1a.b": {Err: form, At: 2},
		"1al": {Err: form, At: 2}, "1alph": {Err: form, At: 2}, "1.alph": {Err: form, At: 3}, "1alphaa": {Err: form, At: 6}, "1be": {Err: form, At: 2}, "1bet1": {Err: form, At: 2}, "1betab": {Err: form, At: 5}, "1p": {Err: form, At: 1}, "1pr": {Err: form, At: 1}, "1.pr": {Err: form, At: 1}, "1prev": {Err: form, At: 4}, "1previe": {Err: form, At: 4}, "1previews": {Err: form, At: 8}, "1ca": {Err: form, At: 2}, "1rca": {Err: form, At: 3}, "1cr1c": {Err: form, At: 4},
		"1re": {Err: form, At: 2}, "1rv": {Err: form, At: 2}, "1.re": {Err: form, At: 3}, "1revr": {Err: form, At: 4}, "1rr": {Err: form, At: 2}, "1pos": {Err: form, At: 1}, "1.pos": {Err: form, At: 1}, "1posts": {Err: form, At: 5}, "1.post-": {Err: form, At: 6}, "1post1.": {Err: form, At: 6}, "1post-1-2": {Err: form, At: 7}, "1-1post2": {Err: form, At: 3}, "1-1a": {Err: form, At: 3}, "1post1a1": {Err: form, At: 6}, "1post1rc": {Err: form, At: 6}, "1rev-": {Err: form, At: 4},
		"1de": {Err: form, At: 1}, "1.de": {Err: form, At: 1}, "1dev.": {Err: form, At: 4}, "1dev1.": {Err: form, At: 5}, "1dev1-1": {Err: form, At: 5}, "1dev1.post1": {Err: form, At: 5}, "1dev1a1": {Err: form, At: 5}, "1devdev": {Err: form, At: 4}, "1dev_x": {Err: form, At: 4},

		"1+-": {Err: form, At: 2}, "1+.a": {Err: form, At: 2}, "1++": {Err: form, At: 2}, "1+ ": {Err: form, At: 2}, "1+\xff": {Err: form, At: 2}, "1+!": {Err: form, At: 2},
		"1+a.": {Err: form, At: 3}, "1+a-": {Err: form, At: 3}, "1+a_": {Err: form, At: 3}, "1+1.": {Err: form, At: 3}, "1+a..b": {Err: form, At: 3}, "1+a.-b": {Err: form, At: 3}, "1+a.b.": {Err: form, At: 5}, "1+a+b": {Err: form, At: 3}, "1+a!": {Err: form, At: 3}, "1+a b": {Err: form, At: 3}, "1+a.+": {Err: form, At: 3}, "1+a\xc3\xa9": {Err: form, At: 3},
		"1.+a": {Err: form, At: 1}, "1-+a": {Err: form, At: 1}, "1a-+a": {Err: form, At: 2},

		strings.Repeat("x", 64):              {Err: form, At: 0},
		strings.Repeat("x", 65):              {Err: long, At: 64},
		strings.Repeat("1", 65):              {Err: long, At: 64},
		strings.Repeat("1", 63) + "!":        {Err: short, At: 64},
		strings.Repeat("1", 63) + ".":        {Err: form, At: 63},
		"1" + strings.Repeat(".0", 31) + "+": {Err: short, At: 64},
		strings.Repeat("1", 63) + "+":        {Err: short, At: 64},
		"1.0+" + strings.Repeat("a", 61):     {Err: long, At: 64},
		"!" + strings.Repeat("1", 64):        {Err: long, At: 64},
		strings.Repeat("1", 64) + "!1":       {Err: long, At: 64},
		"1.0.x" + strings.Repeat("\xff", 60): {Err: long, At: 64},
		strings.Repeat("1.", 5000):           {Err: long, At: 64},
	} {
		if v, f := pep.Parse(s); f != want || !zero(v) {
			t.Errorf("Parse(%q) = %+v, %v, not %v", s, v, f, want)
		}
	}
}

// oracle is the chapter's section 'The text' as one form; a match is as long as it can be, part by part.
func oracle() *regexp.Regexp {
	number := `(?:[-_.]?([0-9]+))?`
	return regexp.MustCompile(`(?i)^v?(?:([0-9]+)!)?(?:([0-9]+(?:\.[0-9]+)*)` +
		`(?:[-_.]?(alpha|a|beta|b|preview|pre|c|rc)` + number + `)?` +
		`(?:-([0-9]+)|[-_.]?(post|rev|r)` + number + `)?` +
		`(?:[-_.]?(dev)` + number + `)?` +
		`(?:(\+)([a-z0-9]+(?:[-_.][a-z0-9]+)*)?)?)?`)
}

// wanted is the version that the oracle's match says, or the fault.
func wanted(form *regexp.Regexp, s string) (api.Pep, api.Fault) {
	m := form.FindStringSubmatch(s)
	end := len(m[0])
	if m[2] == "" || m[10] != "" && m[11] == "" {
		if end == len(s) {
			return api.Pep{}, api.Fault{Err: api.ErrShort, At: end}
		}
		return api.Pep{}, api.Fault{Err: api.ErrForm, At: end}
	}
	if end < len(s) {
		return api.Pep{}, api.Fault{Err: api.ErrForm, At: end}
	}
	v := api.Pep{Epoch: trimmed(m[1]), Release: parts(m[2])}
	if m[3] != "" {
		v.Pre, v.PreNum = map[byte]byte{'a': 'a', 'b': 'b', 'p': 'r', 'c': 'r', 'r': 'r'}[strings.ToLower(m[3])[0]], trimmed(m[4])
	}
	if m[5]+m[6] != "" {
		v.Post, v.PostNum = true, trimmed(m[5]+m[7])
	}
	if m[8] != "" {
		v.Dev, v.DevNum = true, trimmed(m[9])
	}
	if m[11] != "" {
		v.Local = parts(m[11])
	}
	return v, api.Fault{}
}

func trimmed(digits string) string {
	if digits = strings.TrimLeft(digits, "0"); digits == "" {
		return "0"
	}
	return digits
}

func parts(row string) []string {
	list := regexp.MustCompile(`[-_.]`).Split(strings.ToLower(row), -1)
	for i, part := range list {
		if strings.Trim(part, "0123456789") == "" {
			list[i] = trimmed(part)
		}
	}
	return list
}

// everyText is all short texts, and all short rows of what versions are made of behind some beginnings.
func everyText() []string {
	every := checks.Texts("v01!.-+a_ x", 4)
	pieces := []string{"v", "0", "1", "!", ".", "-", "_", "+", "a", "Alpha", "b", "pre", "preview", "c", "rc", "r", "REV", "post", "dev", "x"}
	for _, s := range checks.Rows(pieces, 3) {
		every = append(every, s, "1"+s, "1.0a"+s, "2!1rc01"+s, "1-1"+s, "1.post"+s, "1dev"+s, "1+a"+s)
	}
	return every
}

// P3.1 by its words.
func TestParseEverywhere(t *testing.T) {
	form := oracle()
	versions := 0
	for _, s := range everyText() {
		v, f := pep.Parse(s)
		w, g := wanted(form, s)
		if f != g || !alike(v, w) {
			t.Errorf("Parse(%q) = %+v, %v, not %+v, %v", s, v, f, w, g)
		}
		if f == (api.Fault{}) {
			versions++
			if !pep.Fit(v) {
				t.Errorf("Parse(%q) = %+v, which is not fit", s, v)
			}
		} else if !zero(v) {
			t.Errorf("Parse(%q) = %+v beside %v", s, v, f)
		}
	}
	if versions < 5000 {
		t.Errorf("only %d versions among the texts", versions)
	}
}
