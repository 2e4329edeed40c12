package pep_test

import (
	"math/rand"
	"reflect"
	"slices"
	"strings"
	"testing"

	"dovetail/api"
	"dovetail/pep"
)

const (
	far     = "9223372036854775807"
	farther = "18446744073709551616"
)

func mustParse(t *testing.T, s string) api.Pep {
	t.Helper()
	v, f := pep.Parse(s)
	if f != (api.Fault{}) {
		t.Fatalf("Parse(%q): %v", s, f)
	}
	return v
}

// release is a version of an epoch 0 and no more than its release.
func release(parts ...string) api.Pep { return api.Pep{Epoch: "0", Release: parts} }

// with is a version and what is changed of it.
func with(v api.Pep, change func(*api.Pep)) api.Pep {
	change(&v)
	return v
}

// alike holds versions against each other, nil and empty lists being the same.
func alike(a, b api.Pep) bool {
	if !slices.Equal(a.Release, b.Release) || !slices.Equal(a.Local, b.Local) {
		return false
	}
	a.Release, a.Local, b.Release, b.Local = nil, nil, nil, nil
	return reflect.DeepEqual(a, b)
}

func zero(v api.Pep) bool { return reflect.DeepEqual(v, api.Pep{}) }

// unfit is versions that are not normalised, of each field.
func unfit() []api.Pep {
	good := api.Pep{Epoch: "1", Release: []string{"1", "0"}, Pre: 'a', PreNum: "1", Post: true, PostNum: "2", Dev: true, DevNum: "3", Local: []string{"x", "1"}}
	list := []api.Pep{
		{}, {Epoch: "0"}, {Release: []string{"1"}}, {Epoch: "0", Release: []string{}},
		{Epoch: "0", Release: []string{"1"}, PreNum: "0"}, {Epoch: "0", Release: []string{"1"}, PostNum: "0"}, {Epoch: "0", Release: []string{"1"}, DevNum: "0"},
		{Epoch: "0", Release: []string{"1"}, PreNum: "x"}, {Epoch: "0", Release: []string{"1"}, PostNum: "1"}, {Epoch: "0", Release: []string{"1"}, DevNum: "1"},
		with(good, func(v *api.Pep) { v.Release = nil }),
		with(good, func(v *api.Pep) { v.Pre = 0 }),
		with(good, func(v *api.Pep) { v.Post = false }),
		with(good, func(v *api.Pep) { v.Dev = false }),
	}
	for _, letter := range []byte("cABR\x01`sdp0\xff") {
		list = append(list, with(good, func(v *api.Pep) { v.Pre = letter }))
	}
	for _, bad := range []string{"", "01", "00", "x", "1x", "x1", "-1", "+1", "1.0", " 1", "1 ", "\xff", "1\x00", "\xd9\xa1"} {
		list = append(list,
			with(good, func(v *api.Pep) { v.Epoch = bad }),
			with(good, func(v *api.Pep) { v.Release = []string{bad} }),
			with(good, func(v *api.Pep) { v.Release = []string{bad, "1"} }),
			with(good, func(v *api.Pep) { v.Release = []string{"1", bad} }),
			with(good, func(v *api.Pep) { v.PreNum = bad }),
			with(good, func(v *api.Pep) { v.PostNum = bad }),
			with(good, func(v *api.Pep) { v.DevNum = bad }),
		)
	}
	for _, bad := range []string{"", "01", "00", "A", "aB", "Z9", "a.b", "a-b", "_", "-", ".", "+", "a b", " ", "\xc3\xa9", "a\x00", "a\xff", "@", "`", "{", "[", "/", ":"} {
		list = append(list,
			with(good, func(v *api.Pep) { v.Local = []string{bad} }),
			with(good, func(v *api.Pep) { v.Local = []string{bad, "a"} }),
			with(good, func(v *api.Pep) { v.Local = []string{"a", bad} }),
		)
	}
	return list
}

// fit is normalised versions, by their texts.
func fit() map[string]api.Pep {
	nines := strings.Repeat("9", 100)
	return map[string]api.Pep{
		"0":                                 release("0"),
		"1":                                 {Epoch: "0", Release: []string{"1"}, Local: []string{}},
		"1.0":                               release("1", "0"),
		"1.0.0":                             release("1", "0", "0"),
		"0.0.10.0":                          release("0", "0", "10", "0"),
		"1!2":                               {Epoch: "1", Release: []string{"2"}},
		"10!0":                              {Epoch: "10", Release: []string{"0"}},
		"1a0":                               {Epoch: "0", Release: []string{"1"}, Pre: 'a', PreNum: "0"},
		"1b2":                               {Epoch: "0", Release: []string{"1"}, Pre: 'b', PreNum: "2"},
		"1rc10":                             {Epoch: "0", Release: []string{"1"}, Pre: 'r', PreNum: "10"},
		"1.post0":                           {Epoch: "0", Release: []string{"1"}, Post: true, PostNum: "0"},
		"1.dev0":                            {Epoch: "0", Release: []string{"1"}, Dev: true, DevNum: "0"},
		"1+a":                               {Epoch: "0", Release: []string{"1"}, Local: []string{"a"}},
		"1+0":                               {Epoch: "0", Release: []string{"1"}, Local: []string{"0"}},
		"1+01a.0.z":                         {Epoch: "0", Release: []string{"1"}, Local: []string{"01a", "0", "z"}},
		"1.2.post3.dev4":                    {Epoch: "0", Release: []string{"1", "2"}, Post: true, PostNum: "3", Dev: true, DevNum: "4"},
		"7!1.2rc3.post4.dev5+ubuntu.1.x9":   {Epoch: "7", Release: []string{"1", "2"}, Pre: 'r', PreNum: "3", Post: true, PostNum: "4", Dev: true, DevNum: "5", Local: []string{"ubuntu", "1", "x9"}},
		farther + "!" + far + "a" + farther: {Epoch: farther, Release: []string{far}, Pre: 'a', PreNum: farther},
		nines + "!1." + nines + "b" + nines + ".post" + nines + ".dev" + nines + "+" + nines + ".a" + nines: {
			Epoch: nines, Release: []string{"1", nines}, Pre: 'b', PreNum: nines, Post: true, PostNum: nines, Dev: true, DevNum: nines, Local: []string{nines, "a" + nines},
		},
		"1" + strings.Repeat(".0", 500) + "+a" + strings.Repeat(".b", 500): {
			Epoch: "0", Release: append([]string{"1"}, slices.Repeat([]string{"0"}, 500)...), Local: append([]string{"a"}, slices.Repeat([]string{"b"}, 500)...),
		},
	}
}

// P3.2, P3.3
func TestFitAndText(t *testing.T) {
	for want, v := range fit() {
		if !pep.Fit(v) || pep.Text(v) != want {
			t.Errorf("%+v: Fit %v, Text %q, not %q", v, pep.Fit(v), pep.Text(v), want)
		}
	}
	for _, v := range unfit() {
		if pep.Fit(v) || pep.Text(v) != "" {
			t.Errorf("%+v: Fit %v, Text %q", v, pep.Fit(v), pep.Text(v))
		}
	}
}

// P3.4
func TestNormal(t *testing.T) {
	for s, want := range map[string]string{
		"V1.0-ALPHA_2": "1.0a2", "1.0.post": "1.0.post0", "1!2-3": "1!2.post3", "1.0+Ubuntu_01": "1.0+ubuntu.1",
		"0!1": "1", "00!01.00": "1.0", "v01!2.003": "1!2.3", "1.0.0": "1.0.0", "0": "0", "000": "0", "1.00.0": "1.0.0",
		"1alpha": "1a0", "1_Beta": "1b0", "1PREVIEW.07": "1rc7", "1c": "1rc0", "1.pre-1": "1rc1", "1RC000": "1rc0",
		"1rev": "1.post0", "1R2": "1.post2", "1-00": "1.post0", "1-dev": "1.dev0", "1DEV_3": "1.dev3", "1a-1-1-dev-1": "1a1.post1.dev1",
		"1+00.0a.A-b_C": "1+0.0a.a.b.c",
		"":              "", "x": "", "1.": "", "1.0+": "", "1a.": "", "v": "", "1!": "", "1 ": "", " 1": "", "1.0+a.": "", strings.Repeat("1", 65): "",
		strings.Repeat("1", 64):               strings.Repeat("1", 64),
		"1." + strings.Repeat("2", 60) + "-3": "1." + strings.Repeat("2", 60) + ".post3",
		strings.Repeat("0", 64):               "0",
	} {
		if got := pep.Normal(s); got != want {
			t.Errorf("Normal(%q) = %q, not %q", s, got, want)
		}
	}
}

// P3.7
func TestPre(t *testing.T) {
	for s, want := range map[string]bool{
		"1a1": true, "1b1": true, "1rc1": true, "1.dev1": true, "1a1.dev1": true, "1.post1.dev1": true, "1rc1.post1": true, "1.dev0+x": true,
		"1": false, "1.post1": false, "1+a": false, "1!0": false, "1.post0+dev": false,
	} {
		if got := pep.Pre(mustParse(t, s)); got != want {
			t.Errorf("Pre of %q is %v", s, got)
		}
	}
	for _, c := range []struct {
		v    api.Pep
		want bool
	}{
		{api.Pep{}, false}, {api.Pep{Pre: 'x'}, true}, {api.Pep{Pre: 1}, true}, {api.Pep{Dev: true}, true},
		{api.Pep{PreNum: "1", DevNum: "1", Post: true}, false}, {api.Pep{Pre: 'a', PreNum: "01"}, true},
	} {
		if got := pep.Pre(c.v); got != c.want {
			t.Errorf("Pre(%+v) = %v", c.v, got)
		}
	}
}

// P3.8
func TestPublic(t *testing.T) {
	for s, want := range map[string]string{
		"1.0+a.1": "1.0", "1.0": "1.0", "2!1.0rc1.post2.dev3+x": "2!1.0rc1.post2.dev3", "0+0": "0",
	} {
		v := mustParse(t, s)
		got := pep.Public(v)
		if len(got.Local) > 0 || !alike(got, mustParse(t, want)) {
			t.Errorf("Public of %q is %+v", s, got)
		}
		if !alike(v, mustParse(t, s)) {
			t.Errorf("%q is now %+v", s, v)
		}
	}
	for _, v := range unfit() {
		if got := pep.Public(v); !alike(got, with(v, func(v *api.Pep) { v.Local = nil })) {
			t.Errorf("Public(%+v) = %+v", v, got)
		}
	}
}

// P3.10: from the version to its text and back.
func TestThereAndBack(t *testing.T) {
	there := 0
	for s, v := range fit() {
		w, f := pep.Parse(s)
		if len(s) > api.MaxVersion {
			if f.Err != api.ErrLong || pep.Normal(s) != "" {
				t.Errorf("Parse(%q) = %+v, %v", s, w, f)
			}
			continue
		}
		there++
		if f != (api.Fault{}) || !alike(v, w) {
			t.Errorf("%+v comes back as %+v, %v", v, w, f)
		}
	}
	if there < 15 {
		t.Errorf("only %d are short enough", there)
	}
	source := rand.New(rand.NewSource(3))
	for range 20000 {
		v := anyFit(source)
		s := pep.Text(v)
		if w, f := pep.Parse(s); len(s) <= api.MaxVersion && (f != (api.Fault{}) || !alike(v, w)) {
			t.Errorf("%+v comes back from %q as %+v, %v", v, s, w, f)
		}
	}
}

// anyFit is a normalised version, chosen by a fixed source.
func anyFit(source *rand.Rand) api.Pep {
	number := func() string { return []string{"0", "1", "2", "10", "90", far}[source.Intn(6)] }
	v := api.Pep{Epoch: []string{"0", "0", "1", "10"}[source.Intn(4)], Release: []string{number()}, Pre: []byte{0, 'a', 'b', 'r'}[source.Intn(4)]}
	for range source.Intn(3) {
		v.Release = append(v.Release, number())
	}
	if v.Pre != 0 {
		v.PreNum = number()
	}
	if source.Intn(2) == 0 {
		v.Post, v.PostNum = true, number()
	}
	if source.Intn(2) == 0 {
		v.Dev, v.DevNum = true, number()
	}
	for range source.Intn(3) {
		v.Local = append(v.Local, []string{"a", "b0", "0c", "dev", "rc1", "0", "1", "10"}[source.Intn(8)])
	}
	return v
}

// P3.10: Normal of what is normal is the same, and of one place with it.
func TestNormalTwice(t *testing.T) {
	for _, s := range everyText() {
		n := pep.Normal(s)
		if n == "" || len(n) > api.MaxVersion {
			continue
		}
		if pep.Normal(n) != n || pep.Compare(n, s) != 0 || pep.Compare(s, n) != 0 {
			t.Errorf("Normal(%q) = %q, whose own is %q", s, n, pep.Normal(n))
		}
	}
	long := "1." + strings.Repeat("2", 60) + "-3"
	if n := pep.Normal(long); len(n) != 68 || pep.Normal(n) != "" {
		t.Errorf("Normal(%q) = %q", long, n)
	}
}

// Rule 0.5: lists that are handed in stay, with what lies in their spare room, and answers are memory of their own.
func TestListsStay(t *testing.T) {
	room := []string{"1", "0", "7", "0", "a", "spare"}
	v := api.Pep{Epoch: "0", Release: room[:2], Local: room[4:5]}
	w := api.Pep{Epoch: "0", Release: room[:4], Local: room[2:4]}
	for _, x := range []api.Pep{v, w} {
		pep.Fit(x)
		pep.Text(x)
		pep.Pre(x)
		pep.Order(v, x)
		pep.Order(x, w)
		public := pep.Public(x)
		public.Release = append(public.Release, "5")
		public.Release[0] = "9"
		_ = append(public.Local, "5")
	}
	if want := []string{"1", "0", "7", "0", "a", "spare"}; !slices.Equal(room, want) {
		t.Errorf("the lists are now %q", room)
	}
	if !alike(v, api.Pep{Epoch: "0", Release: []string{"1", "0"}, Local: []string{"a"}}) {
		t.Errorf("the version is now %+v", v)
	}
	x := mustParse(t, "1.2.3+d.e")
	_, _ = append(x.Release, "z", "z"), append(x.Local, "z", "z")
	x.Release[2] = "9"
	if y := mustParse(t, "1.2.3+d.e"); pep.Text(y) != "1.2.3+d.e" || !slices.Equal(x.Local, []string{"d", "e"}) {
		t.Errorf("Parse = %+v, then %+v", x, y)
	}
}
