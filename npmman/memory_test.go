package npmman_test

import (
	"math/rand"
	"slices"
	"testing"

	"dovetail/checks"
	"dovetail/npmman"
)

// P17.2, 0.5: what is handed in stays as it was, its spare room too, which plays no part.
func TestMemory(t *testing.T) {
	source := rand.New(rand.NewSource(5))
	for range 2000 {
		u := anyWild(source)
		r := checks.Roomy(u)
		kept := checks.Copied(r)
		if npmman.Text(r) != npmman.Text(u) {
			t.Fatalf("Text(%s) is not the same with spare room", brief(u))
		}
		if !same(checks.Copied(r), kept) {
			t.Fatalf("%+v is now %+v", kept, checks.Copied(r))
		}
	}
}

// 0.5: answers are memory of their own, and one call's answer plays no part in another one's.
func TestAnswers(t *testing.T) {
	source := rand.New(rand.NewSource(6))
	for range 1000 {
		u, w := anyUniverse(source), &speller{source: source, line: 1}
		w.universe(u)
		s := string(w.text)
		first, _ := npmman.Universe(s)
		second, _ := npmman.Universe(s)
		if !same(first, second) || checks.ShareUniverses(first, second) {
			t.Fatalf("Universe(%q) = %s, then %s", s, brief(first), brief(second))
		}
		kept := checks.Copied(second)
		checks.Emptied(first)
		if third, _ := npmman.Universe(s); !same(checks.Copied(second), kept) || !same(third, second) {
			t.Fatalf("Universe(%q) = %s at first, then %s", s, brief(second), brief(third))
		}
		root := &speller{source: source, line: 1}
		root.members(anyDeps(source), nil)
		a, _ := npmman.Root(string(root.text))
		b, _ := npmman.Root(string(root.text))
		if checks.Share(a, b) {
			t.Fatalf("Root(%q): memory is shared", root.text)
		}
		l := slices.Clone(b)
		clear(a[:cap(a)])
		if c, _ := npmman.Root(string(root.text)); !slices.Equal(b, l) || !slices.Equal(c, l) {
			t.Fatalf("Root(%q) = %s, then %s", root.text, brief(l), brief(c))
		}
	}
}
