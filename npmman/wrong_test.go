package npmman_test

import (
	"fmt"
	"slices"
	"strings"
	"testing"

	"dovetail/api"
	"dovetail/npmman"
	"dovetail/npmspec"
	"dovetail/semver"
)

// others is a value of each kind, but of one.
func others(but string) []string {
	l := []string{"null", "false", "true", "0", `"b"`, "[]", "{}"}
	return slices.DeleteFunc(l, func(s string) bool { return s == but })
}

// sectionKeys is the keys of sections.
func sectionKeys() []string {
	return []string{"dependencies", "peerDependencies", "optionalDependencies"}
}

// P17.1: each kind of value at each place where another kind is asked for.
func TestKinds(t *testing.T) {
	for _, v := range others("{}") {
		faults(t, wrongType, "§"+v, " \n§"+v, `{"packages":[§`+v+"]}", `{"packages":[{"name":"a","version":"1.0.0"}, §`+v+", {}]}")
		rootFaults(t, wrongType, "§"+v, " \n§"+v)
		for _, key := range sectionKeys() {
			faults(t, wrongType, inPackage(`"`+key+`": §`+v), `{"packages":[{"`+key+`":§`+v+"}]}")
			rootFaults(t, wrongType, `{"`+key+`":§`+v+"}", `{"`+key+`" : §`+v+` , "x":1}`)
		}
	}
	for _, v := range others("[]") {
		faults(t, wrongType, `{"packages":§`+v+"}", `{"packages" : §`+v+` , "x":1}`)
	}
	for _, v := range others(`"b"`) {
		faults(t, wrongType, `{"packages":[{"name":§`+v+`,"version":"1.0.0"}]}`, `{"packages":[{"name":§`+v+"}]}", `{"packages":[{"name":"a","version":§`+v+"}]}", `{"packages":[{"version":§`+v+"}]}")
		for _, key := range sectionKeys() {
			faults(t, wrongType, inPackage(`"`+key+`":{"b":"1","c": §`+v+"}"), `{"packages":[{"`+key+`":{"b":§`+v+"}}]}")
			rootFaults(t, wrongType, `{"`+key+`":{"b":§`+v+"}}", `{"`+key+`":{"b":"1","c":"1", "d" : §`+v+" }}")
		}
	}
}

// P17.1: keys that may not stand where they do are told at their value, whatever that is.
func TestKeys(t *testing.T) {
	for _, v := range append(others(""), `"1.0.0"`, `{"b":"1"}`, `[{}]`, `{"":{"":[]}}`) {
		for _, key := range append(sectionKeys(), "", "package", "Packages", "packages ", " packages", "PACKAGES", `packages\u0000`, "name", "version", "a") {
			faults(t, word, `{"`+key+`":§`+v+"}", `{"packages":[],"`+key+`":§`+v+"}", `{"`+key+`":§`+v+`,"packages":[]}`)
		}
		keys := []string{"", "packages", "Name", "names", "name ", "Version", "versions", "Dependencies", "dependencies ", "dependency", "devDependencies", "peerdependencies", "peer", "optional", "optionaldependencies", `dependencies\u0000`, "bundledDependencies", "provides", "extras", "a"}
		for _, key := range keys {
			faults(t, word, inPackage(`"`+key+`": §`+v), `{"packages":[{"`+key+`":§`+v+"}]}", `{"packages":[{"`+key+`":§`+v+`,"name":"a","version":"1.0.0"}]}`)
		}
		for _, key := range append(keys, "name", "version") {
			rootFaults(t, word, `{"`+key+`":§`+v+"}", `{"dependencies":{"b":"1"},"`+key+`":§`+v+"}", `{"`+key+`":§`+v+`,"dependencies":{"b":"1"}}`)
		}
	}
	// Ahead of other faults, and behind them.
	faults(t, word,
		`{"x":§1}`, `{"x":§1,"packages":1}`, `{"x":§1,"y":2}`, `{"packages":[{"x":§1,"name":1}]}`, `{"packages":[{"x":§1}]}`, `{"packages":[{"name":"a","x":§1}]}`, `{"packages":[{"version":"1.0.0","x":§1,"dependencies":1}]}`, `{"packages":[{"name":"a","version":"1.0.0","x":§[]},1]}`)
	faults(t, wrongType, `{"packages":§1,"x":1}`, `{"packages":[{"name":§1,"x":1}]}`, `{"packages":[{"dependencies":§1,"x":1}]}`, `{"packages":[{"dependencies":{"b":§1},"x":1}]}`)
	faults(t, badName, `{"packages":[{"name":§"","x":1}]}`)
	faults(t, miss, `{"packages":[§{}],"x":1}`)
	rootFaults(t, word, `{"x":§1,"dependencies":1}`, `{"dependencies":{},"x":§1,"peerDependencies":1}`)
	rootFaults(t, wrongType, `{"dependencies":§1,"x":1}`)
	rootFaults(t, badName, `{"dependencies":{"":§"1"},"x":1}`)
}

// badNames is texts that are no names, all of bytes that stand for themselves in JSON.
func badNames() []string {
	return []string{"", "A", "a b", " a", "a ", ".a", "_a", ".", "_", "@", "@/", "@a", "@a/", "@/a", "a/b", "@a/b/c", "@a/.b", "@a/_b", "@.a/b", "@_a/b", "@@a/b", "a@b", "@a@b/c", "@a/@b", "a/", "/a", "a:b", "a+b", "é", "aé", "a!", "a'", "a*", strings.Repeat("a", 49), "@a/" + strings.Repeat("a", 46), "@" + strings.Repeat("a", 46) + "/a"}
}

// P17.1: names.
func TestNames(t *testing.T) {
	for _, name := range badNames() {
		faults(t, badName, `{"packages":[{"name": §"`+name+`","version":"1.0.0"}]}`, `{"packages":[{"name":§"`+name+`"}]}`, `{"packages":[{"version":"1.0.0","name":§"`+name+`"}]}`)
		for _, key := range sectionKeys() {
			section := `"` + key + `":{"b":"1","` + name + `" : §`
			// A name's fault is told ahead of its value's kind, and of its range.
			for _, v := range append(others(""), `"1"`, `"!"`) {
				faults(t, badName, inPackage(section+v+"}"))
				rootFaults(t, badName, "{"+section+v+"}}", "{"+section+v+`,"c":1}}`)
			}
		}
	}
	n := strings.Repeat("n", 44)
	for _, name := range []string{"0", "-", "~", "a", "a.", "a_", "-._~", strings.Repeat("a", 47), strings.Repeat("z", 48), "@a/b", "@-/~", "@" + n + "/ab", "@" + n + "/a", "@a/a" + n} {
		reads(t, map[string]api.Universe{
			`{"packages":[{"name":"` + name + `","version":"1.0.0","dependencies":{"` + name + `":"1"}}]}`: universe(pack(1, name, "1.0.0", needs(1, name+" 1"))),
		})
		rootReads(t, map[string][]api.Dep{`{"optionalDependencies":{"` + name + `":"1"}}`: {optional(1, name+" 1")}})
	}
}

// P17.1: versions and ranges that are none.
func TestVersionsAndRanges(t *testing.T) {
	digits := strings.Repeat("1", 60)
	for _, v := range []string{"", "1", "1.0", "v1.0.0", "1.0.0 ", " 1.0.0", "1.0.0.0", "01.0.0", "1.0.0-", "1.0.0-01", "1.0.0+", "x", "^1.0.0", "1.0.0-é", digits + "1.0.0"} {
		if _, f := semver.Parse(v); f.Err == api.OK {
			t.Fatalf("%q is a version", v)
		}
		faults(t, badVersion, `{"packages":[{"name":"a","version": §"`+v+`"}]}`, `{"packages":[{"version":§"`+v+`","name":1}]}`, `{"packages":[{"version":§"`+v+`"}]}`)
	}
	reads(t, map[string]api.Universe{`{"packages":[{"name":"a","version":"` + digits + `.0.0"}]}`: universe(pack(1, "a", digits+".0.0"))})
	most := "1" + strings.Repeat(" ", 255)
	for _, spec := range []string{"!", "1.0.0.0", "1.02", "^", "1 -2", "=>1", "1.2.3-01", "a", "latest", "|", "1|2", "1,2", "é", `\n`, `1\r`, `1\u0000`, most + " ", "git://a", strings.Repeat("1 ", 33)} {
		if npmspec.Valid(strings.NewReplacer(`\n`, "\n", `\r`, "\r", `\u0000`, "\x00").Replace(spec)) {
			t.Fatalf("%q is a range", spec)
		}
		for _, key := range sectionKeys() {
			faults(t, badSpec, inPackage(`"`+key+`":{"b" : §"`+spec+`"}`), inPackage(`"`+key+`":{"b":"1","c":§"`+spec+`","d":1}`))
			rootFaults(t, badSpec, `{"`+key+`":{"b":§"`+spec+`"}}`)
		}
	}
	rootReads(t, map[string][]api.Dep{`{"dependencies":{"b":"` + most + `"}}`: {needs(1, "b "+most)}})
}

// P17.1: objects without packages, name or version.
func TestMissing(t *testing.T) {
	faults(t, miss,
		"§{}", " \n§{ }", `{"packages":[§{}]}`, `{"packages":[§{"name":"a"}]}`, `{"packages":[ §{"version":"1.0.0"}]}`, `{"packages":[§{"dependencies":{"b":"1"}}]}`, `{"packages":[§{"name":"a","dependencies":{}}]}`, `{"packages":[§{"peerDependencies":{"b":"1"},"version":"1.0.0"}]}`,
		`{"packages":[{"name":"a","version":"1.0.0"},§{"name":"a"},{}]}`, `{"packages":[§{"name":"a"},{"version":"1.0.0"}]}`)
	// It is told behind the last key: what is wrong in the object goes ahead, what stands behind it does not.
	faults(t, badName, `{"packages":[{"name":§"A"}]}`)
	faults(t, badVersion, `{"packages":[{"version":§"1"}]}`)
	faults(t, wrongType, `{"packages":[{"dependencies":{"b":§1}}]}`, `{"packages":[{"name":"a","version":"1.0.0"},§1,{}]}`)
	faults(t, badSpec, `{"packages":[{"dependencies":{"b":§"!"}}]}`)
	faults(t, miss, `{"packages":[§{},1]}`, `{"packages":[§{}, {"name":1}]}`, `{"packages":[§{"name":"a"}],"x":1}`)
	faults(t, word, `{"packages":[{"x":§1}]}`)
	// A root misses nothing.
	rootReads(t, map[string][]api.Dep{"{}": nil, `{"optionalDependencies":{}}`: nil})
}

// many is members with rising names and a value each.
func many(from, count int, value string) string {
	var l []string
	for i := range count {
		l = append(l, fmt.Sprintf(`"n%d":%s`, from+i, value))
	}
	return strings.Join(l, ",")
}

// P17.1: 64 and 65 packages.
func TestManyPackages(t *testing.T) {
	one := `{"name":"a","version":"1.0.0"},`
	most := `{"packages":[` + strings.Repeat(one, 63)
	var want []api.Package
	for range 64 {
		want = append(want, pack(1, "a", "1.0.0"))
	}
	reads(t, map[string]api.Universe{most + strings.Trim(one, ",") + "]}": universe(want...), most[:len(most)-1] + "]}": universe(want[:63]...)})
	// The 65th is not looked at.
	for _, v := range append(others(""), strings.Trim(one, ","), `{"x":1}`, `{"name":1}`) {
		faults(t, full, most+one+" §"+v+"]}", most+one+"§"+v+","+one+"{}]}", most+one+"§"+v+`],"x":1}`)
	}
	faults(t, miss, most+"§{},1]}")
	faults(t, wrongType, most+"§1,1]}", `{"packages":[§1,`+strings.Repeat(one, 65)+"1]}")
	faults(t, word, `{"x":§1,`+(most + one)[1:]+"1]}")
}

// P17.1: 32 and 33 requirements of a package and of a root, in one section and in several.
func TestManyRequirements(t *testing.T) {
	deps := func(kind, from, count int) (l []api.Dep) {
		for i := range count {
			l = append(l, api.Dep{Kind: kind, Text: fmt.Sprintf("n%d 1", from+i), Line: 1})
		}
		return l
	}
	ones := func(from, count int) string { return many(from, count, `"1"`) }
	one := `"dependencies":{` + ones(0, 32) + "}"
	several := `"optionalDependencies":{` + ones(0, 11) + `},"dependencies":{` + ones(5, 20) + `},"peerDependencies":{` + ones(0, 1) + "}"
	wantOne := deps(api.RqNeeds, 0, 32)
	wantSeveral := slices.Concat(deps(api.RqOptional, 0, 11), deps(api.RqNeeds, 5, 20), deps(api.RqPeer, 0, 1))
	for members, want := range map[string][]api.Dep{one: wantOne, several: wantSeveral, one + `,"peerDependencies":{}`: wantOne} {
		reads(t, map[string]api.Universe{inPackage(members): universe(pack(1, "a", "1.0.0", want...))})
		rootReads(t, map[string][]api.Dep{"{" + members + "}": want})
		// Each package has as many of its own.
		two := `{"name":"a","version":"1.0.0",` + members + "}"
		reads(t, map[string]api.Universe{`{"packages":[` + two + "," + two + "]}": universe(pack(1, "a", "1.0.0", want...), pack(1, "a", "1.0.0", want...))})
	}
	// Nothing is told of the 33rd but that it is one too many.
	for _, v := range append(others(""), `"1"`, `"!"`) {
		for _, key := range []string{"x", "", "A", ".x"} {
			more := `"` + key + `" : §` + v
			for _, members := range []string{
				`"dependencies":{` + ones(0, 32) + "," + more + "}", `"dependencies":{` + ones(0, 32) + "," + more + `,"y":1}`, one + `,"peerDependencies":{` + more + "}", one + `,"peerDependencies":{},"optionalDependencies":{` + more + `},"z":1`,
				`"optionalDependencies":{` + ones(0, 11) + `},"dependencies":{` + ones(5, 20) + `},"peerDependencies":{` + ones(0, 1) + "," + more + "}",
			} {
				faults(t, full, inPackage(members), `{"packages":[{`+members+"}]}", `{"packages":[{"name":"a","version":"1.0.0",`+one+"},{"+members+"}]}")
				rootFaults(t, full, "{"+members+"}")
			}
		}
	}
	// What is wrong ahead is told.
	faults(t, badName, inPackage(`"dependencies":{"A":§"1",`+ones(0, 33)+"}"))
	faults(t, badSpec, inPackage(`"dependencies":{`+ones(0, 31)+`,"a":§"!","b":"1"}`))
	rootFaults(t, wrongType, `{"dependencies":{`+ones(0, 31)+`,"a":§1,"b":"1"}}`, "{"+one+`,"peerDependencies":§[]}`)
	rootFaults(t, word, "{"+one+`,"x":§{"a":"1"}}`)
}

// P17.1: of several faults the one that is come to first is told.
func TestFirst(t *testing.T) {
	faults(t, wrongType, `{"packages":[{"name":§1,"version":1,"dependencies":1,"x":1},1]}`, `{"packages":[{"dependencies":§1,"version":"1","name":""}]}`, `{"packages":[{"version":§1,"name":1}]}`)
	faults(t, badVersion, `{"packages":[{"version":§"1","name":"","x":1}]}`)
	faults(t, badName, `{"packages":[{"name":§"","version":"1"}]}`, `{"packages":[{"dependencies":{"b":"1","B":§"1","c":"!"},"name":1}]}`)
	faults(t, badSpec, `{"packages":[{"dependencies":{"b":§"!","B":"1"},"name":1}]}`, `{"packages":[{"peerDependencies":{"b":§"!"},"dependencies":{"b":1}}]}`)
	rootFaults(t, badSpec, `{"peerDependencies":{"b":§"!"},"dependencies":1,"x":1}`)
	rootFaults(t, badName, `{"peerDependencies":{"b":"1","":§1},"x":1,"dependencies":1}`)
	// A universe is no root, and a root no universe.
	rootFaults(t, word, `{"packages":§[]}`)
	faults(t, word, `{"dependencies":§{"b":"1"}}`)
}

// P17.1: the bytes that may stand in a name, as the first one of a part and behind it.
func TestName(t *testing.T) {
	const first, later = "abcdefghijklmnopqrstuvwxyz0123456789-~", "abcdefghijklmnopqrstuvwxyz0123456789-~._"
	check := func(s string, want bool) {
		t.Helper()
		if npmman.Name(s) != want {
			t.Errorf("Name(%q) = %v", s, !want)
		}
	}
	for c := range 256 {
		b := string([]byte{byte(c)})
		begins, goesOn := strings.Contains(first, b), strings.Contains(later, b)
		check(b, begins)
		check(b+"a", begins)
		check("@"+b+"/a", begins)
		check("@a/"+b, begins)
		check("@a/"+b+"a", begins)
		check("a"+b, goesOn)
		check("a"+b+"a", goesOn)
		check("@a"+b+"/a", goesOn)
		check("@a/a"+b, goesOn)
		check(b+"a/a", b == "@")
		check("@a"+b+"a", b == "/")
	}
	for _, s := range badNames() {
		check(s, false)
	}
	for _, count := range []int{1, 2, 46, 47, 48, 49, 50, 1000} {
		check(strings.Repeat("a", count), count <= 48)
		check("@a/"+strings.Repeat("a", count), count <= 45)
		check("@"+strings.Repeat("a", count)+"/a", count <= 45)
		check(strings.Repeat(".", count), false)
	}
	check("@"+strings.Repeat("a", 23)+"/"+strings.Repeat("b", 23), true)
	check("@"+strings.Repeat("a", 23)+"/"+strings.Repeat("b", 24), false)
}
