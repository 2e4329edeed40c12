package npmman_test

import (
	"fmt"
	"slices"
	"strings"
	"testing"

	"dovetail/api"
	"dovetail/checks"
	"dovetail/npmman"
)

const (
	form       = api.ErrForm
	short      = api.ErrShort
	long       = api.ErrLong
	deep       = api.ErrDeep
	word       = api.ErrWord
	twice      = api.ErrTwice
	miss       = api.ErrMiss
	wrongType  = api.ErrType
	badVersion = api.ErrVersion
	badName    = api.ErrName
	badSpec    = api.ErrSpec
	full       = api.ErrFull
)

func needs(line int, text string) api.Dep {
	return api.Dep{Kind: api.RqNeeds, Text: text, Line: line}
}
func peer(line int, text string) api.Dep { return api.Dep{Kind: api.RqPeer, Text: text, Line: line} }
func optional(line int, text string) api.Dep {
	return api.Dep{Kind: api.RqOptional, Text: text, Line: line}
}

func pack(line int, name, version string, deps ...api.Dep) api.Package {
	return api.Package{Name: name, Version: version, Line: line, Deps: deps}
}

func universe(l ...api.Package) api.Universe {
	return api.Universe{Dialect: api.DiNpm, Packages: l}
}

func same(a, b api.Universe) bool { return checks.SameUniverse(a, b) }

// brief is something in words, as far as they are few.
func brief(v any) string { return fmt.Sprintf("%.300s", fmt.Sprintf("%+v", v)) }

// reads checks what a universe's texts are read as.
func reads(t *testing.T, wanted map[string]api.Universe) {
	t.Helper()
	for s, want := range wanted {
		if u, f := npmman.Universe(s); f != (api.Fault{}) || !same(u, want) {
			t.Errorf("Universe(%.200q) = %s, %v, not %s", s, brief(u), f, brief(want))
		}
	}
}

// rootReads checks what a root's texts are read as.
func rootReads(t *testing.T, wanted map[string][]api.Dep) {
	t.Helper()
	for s, want := range wanted {
		if l, f := npmman.Root(s); f != (api.Fault{}) || !slices.Equal(l, want) {
			t.Errorf("Root(%.200q) = %s, %v, not %s", s, brief(l), f, brief(want))
		}
	}
}

func fails(t *testing.T, s string, want api.Fault) {
	t.Helper()
	if u, f := npmman.Universe(s); f != want || !same(u, api.Universe{}) {
		t.Errorf("Universe(%.200q) = %s, %v, not %v", s, brief(u), f, want)
	}
}

func rootFails(t *testing.T, s string, want api.Fault) {
	t.Helper()
	if l, f := npmman.Root(s); f != want || len(l) > 0 {
		t.Errorf("Root(%.200q) = %s, %v, not %v", s, brief(l), f, want)
	}
}

// faults checks where a universe's texts go wrong: at the mark in each.
func faults(t *testing.T, err api.Errno, l ...string) {
	t.Helper()
	for _, m := range l {
		s, at := checks.Marked(m)
		fails(t, s, api.Fault{Err: err, At: at})
	}
}

// rootFaults checks where a root's texts go wrong.
func rootFaults(t *testing.T, err api.Errno, l ...string) {
	t.Helper()
	for _, m := range l {
		s, at := checks.Marked(m)
		rootFails(t, s, api.Fault{Err: err, At: at})
	}
}

// inPackage is a universe's text with members of a package behind its name and version.
func inPackage(members string) string {
	return `{"packages":[{"name":"a","version":"1.0.0",` + members + `}]}`
}

// P17.1: the chapter's examples.
func TestExamples(t *testing.T) {
	reads(t, map[string]api.Universe{`{"packages":[{"name":"a","version":"1.0.0","dependencies":{"b":"^2"}}]}`: universe(pack(1, "a", "1.0.0", needs(1, "b ^2")))})
	fails(t, `{"packages":1}`, api.Fault{Err: wrongType, At: 12})
	fails(t, `{"packages":[{"name":"a"}]}`, api.Fault{Err: miss, At: 13})
	fails(t, "{}", api.Fault{Err: miss, At: 0})
}

// P17.1: packages as they stand.
func TestPackages(t *testing.T) {
	reads(t, map[string]api.Universe{
		`{"packages":[]}`:                                                   universe(),
		" {\t\"packages\" :\r[ ] } ":                                        universe(),
		`{"packages":[{"name":"a","version":"1.0.0"}]}`:                     universe(pack(1, "a", "1.0.0")),
		`{"packages":[{"version":"1.0.0","name":"a"}]}`:                     universe(pack(1, "a", "1.0.0")),
		`{"p\u0061ckages":[{"n\u0061me":"\u0061","version":"1.0\u002e0"}]}`: universe(pack(1, "a", "1.0.0")),
		// Neither order nor what is there twice plays a part here.
		`{"packages":[{"name":"b","version":"2.0.0"},{"name":"a","version":"2.0.0"},{"name":"b","version":"1.0.0"},{"name":"a","version":"2.0.0"}]}`: universe(pack(1, "b", "2.0.0"), pack(1, "a", "2.0.0"), pack(1, "b", "1.0.0"), pack(1, "a", "2.0.0")),
		// Versions are as they stand.
		`{"packages":[{"name":"a","version":"1.0.0-rc.1+00"},{"name":"a","version":"0.0.0-0"},{"name":"@a/b","version":"1.0.0+x.-"}]}`: universe(pack(1, "a", "1.0.0-rc.1+00"), pack(1, "a", "0.0.0-0"), pack(1, "@a/b", "1.0.0+x.-")),
	})
}

// P17.1: sections as they stand.
func TestSections(t *testing.T) {
	for members, want := range map[string][]api.Dep{
		`"dependencies":{"c":"1","b":"2"},"peerDependencies":{"a":"3","b":"*"},"optionalDependencies":{"b":">=1 <2"}`: {needs(1, "c 1"), needs(1, "b 2"), peer(1, "a 3"), peer(1, "b *"), optional(1, "b >=1 <2")},
		`"optionalDependencies":{"b":">=1 <2"},"dependencies":{"b":"2","c":"1"},"peerDependencies":{"b":"*","a":"3"}`: {optional(1, "b >=1 <2"), needs(1, "b 2"), needs(1, "c 1"), peer(1, "b *"), peer(1, "a 3")},
		`"dependencies":{}`: nil,
		`"dependencies":{},"peerDependencies":{},"optionalDependencies":{}`: nil,
		`"peerDependencies":{},"dependencies":{"b":"1"}`:                    {needs(1, "b 1")},
		`"peerDependencies":{"b":"1"}`:                                      {peer(1, "b 1")},
		`"optionalDependencies":{"b":"1"},"peerDependencies":{"b":"1"}`:     {optional(1, "b 1"), peer(1, "b 1")},
		// Names and ranges are what they say, and as they stand.
		`"dependencies":{"@a/b":"^1","-":"~1","~x.y_z":""}`:                 {needs(1, "@a/b ^1"), needs(1, "- ~1"), needs(1, "~x.y_z ")},
		`"dependencies":{"b":"  ^1.2.x ||  v2\t","c":"\u0009","d":"1 - 2"}`: {needs(1, "b   ^1.2.x ||  v2\t"), needs(1, "c \t"), needs(1, "d 1 - 2")},
		`"dep\u0065ndencies":{"\u0062":"\u005e1"}`:                          {needs(1, "b ^1")},
		// A package may need itself.
		`"dependencies":{"a":"1.0.0"}`: {needs(1, "a 1.0.0")},
	} {
		want := universe(pack(1, "a", "1.0.0", want...))
		reads(t, map[string]api.Universe{
			inPackage(members): want,
			`{"packages":[{` + members + `,"version":"1.0.0","name":"a"}]}`: want,
			`{"packages":[{"name":"a",` + members + `,"version":"1.0.0"}]}`: want,
		})
		rootReads(t, map[string][]api.Dep{"{" + members + "}": want.Packages[0].Deps})
	}
	rootReads(t, map[string][]api.Dep{"{}": nil, " { } ": nil})
	// Each package has its own.
	reads(t, map[string]api.Universe{
		`{"packages":[{"name":"a","version":"1.0.0","dependencies":{"b":"1"}},{"name":"b","version":"1.0.0"},{"name":"c","version":"1.0.0","dependencies":{"a":"1"}}]}`: universe(pack(1, "a", "1.0.0", needs(1, "b 1")), pack(1, "b", "1.0.0"), pack(1, "c", "1.0.0", needs(1, "a 1"))),
	})
}

// P17.1: lines are told by bytes 10 alone, wherever they stand.
func TestLines(t *testing.T) {
	reads(t, map[string]api.Universe{
		"\n{\n\"packages\"\n:\n[\n{\n\"name\"\n:\n\"a\"\n,\n\"version\"\n:\n\"1.0.0\"\n,\n\"dependencies\"\n:\n{\n\"b\"\n:\n\"1\"\n}\n}\n]\n}\n":                        universe(pack(6, "a", "1.0.0", needs(20, "b 1"))),
		"{\"packages\":[\r\n{\"name\":\"a\",\"version\":\"1.0.0\"},\r\r{\"name\":\"b\",\"version\":\"1.0.0\"},\n\n\n\n\n\n\n\n{\"name\":\"c\",\"version\":\"1.0.0\"}]}": universe(pack(2, "a", "1.0.0"), pack(2, "b", "1.0.0"), pack(10, "c", "1.0.0")),
		"{\"packages\":[{\n\"peerDependencies\":{\"b\":\n\"1\",\n\"c\":\"\\t\\u0009\"},\"version\":\"1.0.0\",\"name\":\"a\",\"dependencies\":\n{\"b\":\"1\"}}]}":        universe(pack(1, "a", "1.0.0", peer(3, "b 1"), peer(4, "c \t\t"), needs(5, "b 1"))),
	})
	rootReads(t, map[string][]api.Dep{
		"\n\n{\"dependencies\":{\"b\":\"1\",\n\"c\":\n\n\"1\"},\n\"optionalDependencies\":{\"b\":\"1\"}}\n": {needs(3, "b 1"), needs(6, "c 1"), optional(7, "b 1")},
	})
	far := strings.Repeat("\n", 60000)
	reads(t, map[string]api.Universe{far + `{"packages":[{"name":"a","version":"1.0.0"}]}` + "\n": universe(pack(60001, "a", "1.0.0"))})
	rootReads(t, map[string][]api.Dep{`{"dependencies":{"b":` + far + `"1"}}`: {needs(60001, "b 1")}})
}

// P17.1: texts that are no JSON are told ahead of all else.
func TestNoJson(t *testing.T) {
	for s, want := range map[string]api.Fault{
		"": {Err: short}, " \n": {Err: short, At: 2}, "{": {Err: short, At: 1}, `{"packages":[{"name":"a","version":"1.0.0"}]`: {Err: short, At: 44}, "{}x": {Err: form, At: 2}, "nul": {Err: short, At: 3}, "{'a':1}": {Err: form, At: 1}, "01": {Err: api.ErrZero, At: 1},
		`{"packages":[],"packages":[]}`: {Err: twice, At: 15}, `{"packages":[],"p\u0061ckages":[]}`: {Err: twice, At: 15}, `{"dependencies":{},"dependencies":{}}`: {Err: twice, At: 19}, `{"dependencies":{"a":"1","\u0061":"1"}}`: {Err: twice, At: 25},
		`[[[[[[[[[`: {Err: deep, At: 8},
		// What is wrong ahead but for JSON is not told.
		`[1,]`: {Err: form, At: 3}, `{"x":1,"x":1}`: {Err: twice, At: 7}, `{"packages":1,`: {Err: short, At: 14}, `{"packages":[{"name":1,"name":"a"}]}`: {Err: twice, At: 23}, `{"dependencies":{"A":1},"name":}`: {Err: form, At: 31}, `{"x":[[[[[[[[1]]]]]]]]}`: {Err: deep, At: 12}, `{"packages":[{}],"x":"` + "\n" + `"}`: {Err: form, At: 22},
	} {
		fails(t, s, want)
		rootFails(t, s, want)
	}
	const most = 65536
	blanks := strings.Repeat(" ", most)
	s, root := `{"packages":[]}`, `{"dependencies":{"a":"1"}}`
	reads(t, map[string]api.Universe{s + blanks[len(s):]: universe(), blanks[len(s):] + s: universe()})
	rootReads(t, map[string][]api.Dep{root + blanks[len(root):]: {needs(1, "a 1")}, blanks[len(root):] + root: {needs(1, "a 1")}})
	for _, s := range []string{s + blanks, s + blanks[len(s)-1:], "x" + blanks, "1" + blanks} {
		fails(t, s, api.Fault{Err: long, At: most})
		rootFails(t, s, api.Fault{Err: long, At: most})
	}
	fails(t, "{}"+blanks[2:], api.Fault{Err: miss, At: 0})
}
