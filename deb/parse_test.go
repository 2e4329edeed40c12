package deb_test

import (
	"regexp"
	"strings"
	"testing"

	"dovetail/api"
	"dovetail/checks"
	"dovetail/deb"
)

// P4.1: versions.
func TestParse(t *testing.T) {
	long := strings.Repeat("9", 60)
	for s, want := range map[string]api.DebVer{
		"1":         {Epoch: "0", Upstream: "1"},
		"0":         {Epoch: "0", Upstream: "0"},
		"007":       {Epoch: "0", Upstream: "007"},
		"1.0":       {Epoch: "0", Upstream: "1.0"},
		"1.0-1":     {Epoch: "0", Upstream: "1.0", Revision: "1"},
		"1.0-01":    {Epoch: "0", Upstream: "1.0", Revision: "01"},
		"1:1.0-1":   {Epoch: "1", Upstream: "1.0", Revision: "1"},
		"1:0":       {Epoch: "1", Upstream: "0"},
		"1.":        {Epoch: "0", Upstream: "1."},
		"1~":        {Epoch: "0", Upstream: "1~"},
		"1+":        {Epoch: "0", Upstream: "1+"},
		"1a.Z+b~c":  {Epoch: "0", Upstream: "1a.Z+b~c"},
		"1-a.Z+b~c": {Epoch: "0", Upstream: "1", Revision: "a.Z+b~c"},
		"1-~":       {Epoch: "0", Upstream: "1", Revision: "~"},
		"1-.":       {Epoch: "0", Upstream: "1", Revision: "."},
		"1-+":       {Epoch: "0", Upstream: "1", Revision: "+"},
		"1-a":       {Epoch: "0", Upstream: "1", Revision: "a"},

		"0:1": {Epoch: "0", Upstream: "1"}, "000:1": {Epoch: "0", Upstream: "1"}, "01:1": {Epoch: "1", Upstream: "1"}, "0010:1": {Epoch: "10", Upstream: "1"}, "100:1": {Epoch: "100", Upstream: "1"},
		farther + ":" + far: {Epoch: farther, Upstream: far}, "00" + farther + ":" + far + "-" + far: {Epoch: farther, Upstream: far, Revision: far},

		"1:2:3": {Epoch: "1", Upstream: "2:3"}, "0:2:3": {Epoch: "0", Upstream: "2:3"}, "00:2:3": {Epoch: "0", Upstream: "2:3"}, "1:2:": {Epoch: "1", Upstream: "2:"}, "1:2::": {Epoch: "1", Upstream: "2::"}, "1:2:a:3": {Epoch: "1", Upstream: "2:a:3"}, "1:2:3-4": {Epoch: "1", Upstream: "2:3", Revision: "4"}, "1:2a:": {Epoch: "1", Upstream: "2a:"},
		"1--1": {Epoch: "0", Upstream: "1-", Revision: "1"}, "1-2-3": {Epoch: "0", Upstream: "1-2", Revision: "3"}, "1---a": {Epoch: "0", Upstream: "1--", Revision: "a"}, "1-2-3-4": {Epoch: "0", Upstream: "1-2-3", Revision: "4"}, "1:2-3:4-5": {Epoch: "1", Upstream: "2-3:4", Revision: "5"}, "1:2-:-5": {Epoch: "1", Upstream: "2-:", Revision: "5"}, "1:2:-5": {Epoch: "1", Upstream: "2:", Revision: "5"},

		long + "1234":                          {Epoch: "0", Upstream: long + "1234"},
		"1:" + long + "-1":                     {Epoch: "1", Upstream: long, Revision: "1"},
		"1-" + long + "12":                     {Epoch: "0", Upstream: "1", Revision: long + "12"},
		strings.Repeat("0", 62) + ":1":         {Epoch: "0", Upstream: "1"},
		strings.Repeat("9", 62) + ":1":         {Epoch: strings.Repeat("9", 62), Upstream: "1"},
		strings.Repeat("0", 61) + "7" + ":1":   {Epoch: "7", Upstream: "1"},
		"1" + strings.Repeat("-", 62) + "1":    {Epoch: "0", Upstream: "1" + strings.Repeat("-", 61), Revision: "1"},
		"1:1" + strings.Repeat(":", 61):        {Epoch: "1", Upstream: "1" + strings.Repeat(":", 61)},
		"1:1" + strings.Repeat(":-", 30) + "a": {Epoch: "1", Upstream: "1" + strings.Repeat(":-", 29) + ":", Revision: "a"},
	} {
		v, f := deb.Parse(s)
		if f != (api.Fault{}) || v != want {
			t.Errorf("Parse(%q) = %q, %v, not %q", s, v, f, want)
		}
	}
}

// P4.1: what is none, and where.
func TestParseFaults(t *testing.T) {
	form, short, long := api.ErrForm, api.ErrShort, api.ErrLong
	for s, want := range map[string]api.Fault{
		"": {Err: short, At: 0}, "1:": {Err: short, At: 2}, "00:": {Err: short, At: 3}, "123:": {Err: short, At: 4},
		"1-": {Err: short, At: 2}, "1--": {Err: short, At: 3}, "1-2-": {Err: short, At: 4}, "1:2-": {Err: short, At: 4}, "1:2:-": {Err: short, At: 5}, "1:2:3-": {Err: short, At: 6},
		"1:2-3:4": {Err: short, At: 7}, "1:2-:": {Err: short, At: 5}, "1:2-3:": {Err: short, At: 6}, "1:2--:": {Err: short, At: 6}, "1:2-3-4:5": {Err: short, At: 9}, "1:2-a:~": {Err: short, At: 7}, "0:2-3:4": {Err: short, At: 7},

		"a1": {Err: form, At: 0}, "a": {Err: form, At: 0}, "-": {Err: form, At: 0}, "-1": {Err: form, At: 0}, ".1": {Err: form, At: 0}, "~1": {Err: form, At: 0}, "+1": {Err: form, At: 0}, ":": {Err: form, At: 0}, ":1": {Err: form, At: 0}, " 1": {Err: form, At: 0}, "_": {Err: form, At: 0}, "\x00": {Err: form, At: 0}, "\xff": {Err: form, At: 0}, "/": {Err: form, At: 0}, "\xd9\xa1": {Err: form, At: 0},
		"a:1": {Err: form, At: 0}, "a1:1": {Err: form, At: 0}, "-1:1": {Err: form, At: 0},
		"1:a": {Err: form, At: 2}, "1::": {Err: form, At: 2}, "1::2": {Err: form, At: 2}, "1:-": {Err: form, At: 2}, "1:-1": {Err: form, At: 2}, "1:~1": {Err: form, At: 2}, "1:.1": {Err: form, At: 2}, "1: 1": {Err: form, At: 2}, "12:a:1": {Err: form, At: 3}, "00:_": {Err: form, At: 3},
		"1a:1": {Err: form, At: 2}, "1.0:1": {Err: form, At: 3}, "1-2:3": {Err: form, At: 3}, "1-:": {Err: form, At: 2}, "1~:": {Err: form, At: 2}, "1+:2": {Err: form, At: 2}, "1a:": {Err: form, At: 2}, "1.:2:3": {Err: form, At: 2}, "1-2:": {Err: form, At: 3},
		"1_2": {Err: form, At: 1}, "1_2:3": {Err: form, At: 1}, "1 ": {Err: form, At: 1}, "1 :2": {Err: form, At: 1}, "1\n": {Err: form, At: 1}, "1\x00": {Err: form, At: 1}, "1\xff": {Err: form, At: 1}, "1\xc3\xa9": {Err: form, At: 1}, "1*": {Err: form, At: 1}, "1,": {Err: form, At: 1}, "1/": {Err: form, At: 1}, "1;": {Err: form, At: 1}, "1^": {Err: form, At: 1}, "1!": {Err: form, At: 1}, "1@": {Err: form, At: 1}, "1[": {Err: form, At: 1}, "1`": {Err: form, At: 1}, "1{": {Err: form, At: 1}, "1}": {Err: form, At: 1}, "1\x7f": {Err: form, At: 1},
		"1-_": {Err: form, At: 2}, "1-2_": {Err: form, At: 3}, "1:2-3:_": {Err: form, At: 6}, "1:2_:3": {Err: form, At: 3}, "1:2 ": {Err: form, At: 3}, "1-2-_": {Err: form, At: 4}, "1:2-_:": {Err: form, At: 4},

		strings.Repeat("x", 64):                {Err: form, At: 0},
		strings.Repeat("x", 65):                {Err: long, At: 64},
		strings.Repeat("1", 65):                {Err: long, At: 64},
		strings.Repeat("1", 63) + ":":          {Err: short, At: 64},
		strings.Repeat("1", 63) + "-":          {Err: short, At: 64},
		strings.Repeat("1", 63) + "_":          {Err: form, At: 63},
		strings.Repeat("1", 64) + "_":          {Err: long, At: 64},
		strings.Repeat("0", 64) + ":1":         {Err: long, At: 64},
		strings.Repeat("0", 63) + ":1":         {Err: long, At: 64},
		"a" + strings.Repeat("1", 64):          {Err: long, At: 64},
		"1:" + strings.Repeat("1", 60) + "-:":  {Err: short, At: 64},
		"1-" + strings.Repeat("a", 63):         {Err: long, At: 64},
		"1:2-3:4" + strings.Repeat("\xff", 57): {Err: form, At: 7},
		"1:2-3:4" + strings.Repeat("\xff", 58): {Err: long, At: 64},
		strings.Repeat("1:", 5000):             {Err: long, At: 64},
	} {
		if v, f := deb.Parse(s); f != want || v != (api.DebVer{}) {
			t.Errorf("Parse(%q) = %q, %v, not %v", s, v, f, want)
		}
	}
}

// P4.1: which bytes may stand where, all of them.
func TestParseBytes(t *testing.T) {
	alnum := "0123456789ABCDEFGHIJKLMNOPQRSTUVWXYZabcdefghijklmnopqrstuvwxyz"
	for c := range 256 {
		b := string([]byte{byte(c)})
		for _, place := range []struct{ ahead, behind, takes string }{
			{"", "1", alnum[:10]}, {"1", "1", alnum + ".+~-:"}, {"1a", "1", alnum + ".+~-"}, {"1-1", "1", alnum + ".+~-"},
			{"1:", "1", alnum[:10]}, {"1:1", "1", alnum + ".+~-:"}, {"1:1-", "-1", alnum + ".+~-:"},
		} {
			v, f := deb.Parse(place.ahead + b + place.behind)
			if takes := strings.Contains(place.takes, b); takes != (f == api.Fault{}) {
				t.Errorf("Parse(%q) = %q, %v", place.ahead+b+place.behind, v, f)
			} else if !takes && f != (api.Fault{Err: api.ErrForm, At: len(place.ahead)}) {
				t.Errorf("Parse(%q) = %v", place.ahead+b+place.behind, f)
			}
		}
	}
}

// oracle is the chapter's section 'The text' as forms: with an epoch and without one.
type oracle struct{ forms []*regexp.Regexp }

func newOracle() oracle {
	var o oracle
	for _, form := range []string{
		`^([0-9]+):([0-9][0-9A-Za-z.+~:]*)()$`,
		`^([0-9]+):([0-9][0-9A-Za-z.+~:-]*)-([0-9A-Za-z.+~]+)$`,
		`^()([0-9][0-9A-Za-z.+~]*)()$`,
		`^()([0-9][0-9A-Za-z.+~-]*)-([0-9A-Za-z.+~]+)$`,
	} {
		o.forms = append(o.forms, regexp.MustCompile(form))
	}
	return o
}

func (o oracle) version(s string) (api.DebVer, bool) {
	for _, form := range o.forms {
		if m := form.FindStringSubmatch(s); m != nil {
			epoch := strings.TrimLeft(m[1], "0")
			if epoch == "" {
				epoch = "0"
			}
			return api.DebVer{Epoch: epoch, Upstream: m[2], Revision: m[3]}, true
		}
	}
	return api.DebVer{}, false
}

// parse is P4.1 by its words: the first byte behind which no end makes a version of the text.
func (o oracle) parse(s string) (api.DebVer, api.Fault) {
	if v, ok := o.version(s); ok {
		return v, api.Fault{}
	}
	whole := func(s string) bool { _, ok := o.version(s); return ok }
	if at := checks.Begins(s, []string{"", "0", "-0"}, whole); at < len(s) {
		return api.DebVer{}, api.Fault{Err: api.ErrForm, At: at}
	}
	return api.DebVer{}, api.Fault{Err: api.ErrShort, At: len(s)}
}

// everyText is all short texts, and all short ends behind some beginnings.
func everyText() []string {
	every := checks.Texts("01a~.-:_", 5)
	for _, s := range checks.Texts("0Z+-: ", 4) {
		every = append(every, "1"+s, "1a"+s, "00:1"+s, "07:2~"+s, "1:2-3"+s, "1-"+s, "1:2:3-4"+s)
	}
	return every
}

// P4.1, and P4.8 from the text to the version and back, by their words.
func TestParseEverywhere(t *testing.T) {
	form, versions := newOracle(), 0
	for _, s := range everyText() {
		v, f := deb.Parse(s)
		if w, g := form.parse(s); v != w || f != g {
			t.Errorf("Parse(%q) = %q, %v, not %q, %v", s, v, f, w, g)
		}
		if f != (api.Fault{}) {
			continue
		}
		versions++
		text := deb.Format(v)
		if w, g := deb.Parse(text); !deb.Fit(v) || g != (api.Fault{}) || v != w || deb.Compare(s, text) != 0 || deb.Compare(text, s) != 0 {
			t.Errorf("Parse(%q) = %q, whose text is %q", s, v, text)
		}
	}
	if versions < 5000 {
		t.Errorf("only %d versions among the texts", versions)
	}
}
