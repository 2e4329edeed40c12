package ranks_test

import (
	"math"
	"slices"
	"testing"

	"dovetail/api"
	"dovetail/ranks"
)

// P7.3
func TestTwo(t *testing.T) {
	for _, c := range []struct {
		name                     string
		a, b, union, meet, minus []api.Span
	}{
		{"none and none", nil, nil, nil, nil, nil},
		{"none and some", nil, set(1, 3), set(1, 3), nil, nil},
		{"some and none", set(1, 3), nil, set(1, 3), nil, set(1, 3)},
		{"the same", set(1, 3, 5, 6), set(1, 3, 5, 6), set(1, 3, 5, 6), set(1, 3, 5, 6), nil},
		{"apart", set(0, 1), set(3, 4), set(0, 1, 3, 4), nil, set(0, 1)},
		{"touching", set(0, 2), set(2, 4), set(0, 4), nil, set(0, 2)},
		{"touching, the later one first", set(2, 4), set(0, 2), set(0, 4), nil, set(2, 4)},
		{"one rank between", set(0, 2), set(3, 4), set(0, 2, 3, 4), nil, set(0, 2)},
		{"overlapping", set(0, 3), set(2, 5), set(0, 5), set(2, 3), set(0, 2)},
		{"overlapping, the later one first", set(2, 5), set(0, 3), set(0, 5), set(2, 3), set(3, 5)},
		{"the second one in the first", set(0, 5), set(1, 2), set(0, 5), set(1, 2), set(0, 1, 2, 5)},
		{"the first one in the second", set(1, 2), set(0, 5), set(0, 5), set(1, 2), nil},
		{"beginning together, the first one longer", set(0, 5), set(0, 2), set(0, 5), set(0, 2), set(2, 5)},
		{"beginning together, the second one longer", set(0, 2), set(0, 5), set(0, 5), set(0, 2), nil},
		{"ending together, the first one longer", set(0, 5), set(3, 5), set(0, 5), set(3, 5), set(0, 3)},
		{"ending together, the second one longer", set(3, 5), set(0, 5), set(0, 5), set(3, 5), nil},
		{"a gap filled", set(0, 2, 3, 5), set(2, 3), set(0, 5), nil, set(0, 2, 3, 5)},
		{"a gap bridged", set(0, 2, 4, 6), set(1, 5), set(0, 6), set(1, 2, 4, 5), set(0, 1, 5, 6)},
		{"a span over several", set(0, 9), set(1, 2, 3, 4, 8, 9), set(0, 9), set(1, 2, 3, 4, 8, 9), set(0, 1, 2, 3, 4, 8)},
		{"in turn", set(0, 1, 2, 3, 4, 5), set(1, 2, 3, 4), set(0, 5), nil, set(0, 1, 2, 3, 4, 5)},
		{"up to the last rank", set(0, most), set(most-1, most), set(0, most), set(most-1, most), set(0, most-1)},
		{"many and all", evens(), ranks.All(most), ranks.All(most), evens(), nil},
		{"many and none", evens(), nil, evens(), nil, evens()},
	} {
		for name, got := range map[string][2][]api.Span{
			"Union": {ranks.Union(c.a, c.b), c.union},
			"Meet":  {ranks.Meet(c.a, c.b), c.meet},
			"Minus": {ranks.Minus(c.a, c.b), c.minus},
		} {
			if !slices.Equal(got[0], got[1]) {
				t.Errorf("%s: %s is %.80s, not %.80s", c.name, name, ranks.Text(got[0]), ranks.Text(got[1]))
			}
		}
	}
}

// P7.3
func TestNot(t *testing.T) {
	for _, c := range []struct {
		n       int
		a, want []api.Span
	}{
		{0, nil, nil}, {1, nil, set(0, 1)}, {1, set(0, 1), nil}, {4, nil, set(0, 4)}, {4, set(0, 4), nil}, {4, set(1, 3), set(0, 1, 3, 4)}, {4, set(0, 2), set(2, 4)}, {4, set(2, 4), set(0, 2)}, {4, set(0, 1, 2, 3), set(1, 2, 3, 4)}, {5, set(0, 1, 2, 3), set(1, 2, 3, 5)}, {9, set(4, 5), set(0, 4, 5, 9)},
		{most, nil, set(0, most)}, {most, set(0, most), nil}, {most, set(0, most-1), set(most-1, most)}, {most, set(1, most), set(0, 1)},
		// P7.6 goes on: with none it makes up All.
		{-1, nil, nil}, {math.MinInt, nil, nil}, {most + 1, nil, set(0, most)}, {math.MaxInt, nil, set(0, most)},
	} {
		if got := ranks.Not(c.n, c.a); !slices.Equal(got, c.want) {
			t.Errorf("Not(%d, %v) = %v, not %v", c.n, c.a, got, c.want)
		}
	}
	odds := ranks.Not(most, evens())
	if len(odds) != most/2 || odds[0] != (api.Span{Lo: 1, Hi: 2}) || odds[most/2-1] != (api.Span{Lo: most - 1, Hi: most}) || !slices.Equal(ranks.Not(most, odds), evens()) {
		t.Errorf("Not of every second rank has %d spans", len(odds))
	}
}

// sets is all sets of ranks below n, each at the place whose bits are its ranks.
func sets(n int) [][]api.Span {
	var all [][]api.Span
	for bits := range 1 << n {
		var s []api.Span
		for rank := range n {
			switch last := len(s) - 1; {
			case bits>>rank&1 == 0:
			case rank > 0 && bits>>(rank-1)&1 == 1:
				s[last].Hi = rank + 1
			default:
				s = append(s, api.Span{Lo: rank, Hi: rank + 1})
			}
		}
		all = append(all, s)
	}
	return all
}

// P7.3 and P7.4 held against sets as bits, P7.7: the answers, which are the spans of sets, are fit.
func TestPairs(t *testing.T) {
	const n = 7
	all := sets(n)
	for x, a := range all {
		if got := ranks.Not(n, a); !ranks.Fit(n, got) || !slices.Equal(got, all[len(all)-1-x]) {
			t.Errorf("Not(%d, %v) = %v", n, a, got)
		}
		for y, b := range all {
			for name, got := range map[string]struct {
				set  []api.Span
				bits int
			}{
				"Union": {ranks.Union(a, b), x | y},
				"Meet":  {ranks.Meet(a, b), x & y},
				"Minus": {ranks.Minus(a, b), x &^ y},
			} {
				if !ranks.Fit(n, got.set) || !slices.Equal(got.set, all[got.bits]) {
					t.Errorf("%s(%v, %v) = %v", name, a, b, got.set)
				}
			}
			if got := ranks.Within(a, b); got != (x&^y == 0) {
				t.Errorf("Within(%v, %v) = %v", a, b, got)
			}
			if got := ranks.Same(a, b); got != (x == y) {
				t.Errorf("Same(%v, %v) = %v", a, b, got)
			}
		}
	}
}

// P7.2, P7.4 and P7.7 held against sets as bits: List and Of are there and back.
func TestThereAndBack(t *testing.T) {
	const n = 9
	for bits, a := range sets(n) {
		var list []int
		where := make([]bool, n)
		for rank := -1; rank <= n; rank++ {
			in := 0 <= rank && bits>>max(rank, 0)&1 == 1
			if in {
				list, where[rank] = append(list, rank), true
			}
			if ranks.Has(a, rank) != in {
				t.Errorf("Has(%v, %d) = %v", a, rank, !in)
			}
		}
		if !ranks.Fit(n, a) || !slices.Equal(ranks.List(a), list) || ranks.Count(a) != len(list) {
			t.Errorf("%v: List %v, Count %d", a, ranks.List(a), ranks.Count(a))
		}
		if !ranks.Same(ranks.Of(n, ranks.List(a)), a) || !ranks.Same(ranks.Where(where), a) {
			t.Errorf("%v comes back as %v, %v", a, ranks.Of(n, ranks.List(a)), ranks.Where(where))
		}
	}
	for _, a := range [][]api.Span{nil, evens(), ranks.All(most), set(0, 1, most-1, most)} {
		if !ranks.Same(ranks.Of(most, ranks.List(a)), a) {
			t.Errorf("%.40s does not come back", ranks.Text(a))
		}
	}
}

// P7.5: unlike sets have unlike texts.
func TestTextsAreUnlike(t *testing.T) {
	seen := map[string][]api.Span{}
	for _, a := range sets(9) {
		text := ranks.Text(a)
		if other, ok := seen[text]; ok {
			t.Errorf("%v and %v are %q", a, other, text)
		}
		seen[text] = a
	}
}

// P7.6, P7.7: what holds of two sets.
func TestLawsOfTwo(t *testing.T) {
	const n = 6
	all := ranks.All(n)
	not := func(a []api.Span) []api.Span { return ranks.Not(n, a) }
	for _, a := range sets(n) {
		if len(ranks.Meet(a, not(a))) != 0 || !ranks.Same(ranks.Union(a, not(a)), all) || !ranks.Same(not(not(a)), a) {
			t.Errorf("%v and its Not %v", a, not(a))
		}
		if !ranks.Within(nil, a) || !ranks.Within(a, all) || !ranks.Within(a, a) {
			t.Errorf("%v is not between none and All", a)
		}
		for _, b := range sets(n) {
			union, meet := ranks.Union(a, b), ranks.Meet(a, b)
			for law, holds := range map[string]bool{
				"Union turned round":   ranks.Same(union, ranks.Union(b, a)),
				"Meet turned round":    ranks.Same(meet, ranks.Meet(b, a)),
				"Not of Union":         ranks.Same(not(union), ranks.Meet(not(a), not(b))),
				"Not of Meet":          ranks.Same(not(meet), ranks.Union(not(a), not(b))),
				"Minus is Meet of Not": ranks.Same(ranks.Minus(a, b), ranks.Meet(a, not(b))),
				"Within by Union":      ranks.Within(a, b) == ranks.Same(union, b),
			} {
				if !holds {
					t.Errorf("%s: %v, %v", law, a, b)
				}
			}
		}
	}
}

// P7.6: what holds of three sets.
func TestLawsOfThree(t *testing.T) {
	all := sets(5)
	for _, a := range all {
		for _, b := range all {
			union, meet := ranks.Union(a, b), ranks.Meet(a, b)
			for _, c := range all {
				if !ranks.Same(ranks.Union(union, c), ranks.Union(a, ranks.Union(b, c))) || !ranks.Same(ranks.Meet(meet, c), ranks.Meet(a, ranks.Meet(b, c))) {
					t.Fatalf("not associative: %v, %v, %v", a, b, c)
				}
				if !ranks.Same(ranks.Meet(union, c), ranks.Union(ranks.Meet(a, c), ranks.Meet(b, c))) || !ranks.Same(ranks.Union(meet, c), ranks.Meet(ranks.Union(a, c), ranks.Union(b, c))) {
					t.Fatalf("not distributive: %v, %v, %v", a, b, c)
				}
			}
		}
	}
}

// P7.4: Within of sets of many spans.
func TestWithinOfMany(t *testing.T) {
	odds := ranks.Not(most, evens())
	for name, c := range map[string]struct {
		a, b []api.Span
		want bool
	}{
		"evens in all": {evens(), ranks.All(most), true}, "all in evens": {ranks.All(most), evens(), false}, "evens in odds": {evens(), odds, false}, "odds in themselves": {odds, odds, true}, "the last rank in odds": {set(most-1, most), odds, true}, "the last rank in evens": {set(most-1, most), evens(), false}, "none in odds": {nil, odds, true}, "odds in none": {odds, nil, false},
	} {
		if got := ranks.Within(c.a, c.b); got != c.want {
			t.Errorf("%s: %v", name, got)
		}
	}
}

// answers is what all calls tell of two sets; those that are sets.
func answers(n int, a, b []api.Span) [][]api.Span {
	ranks.Fit(n, a)
	ranks.Has(a, n)
	ranks.Count(a)
	ranks.Within(a, b)
	ranks.Same(a, b)
	ranks.Text(a)
	clear(ranks.List(a))
	return [][]api.Span{ranks.Union(a, b), ranks.Meet(a, b), ranks.Minus(a, b), ranks.Not(n, a), ranks.Not(n, b)}
}

// Rule 0.1: every call ends, and none panics, whatever the spans are.
func TestAnySpans(t *testing.T) {
	rows := append(unfit(), nil, set(0, 1), set(1, 3, 5, 6), set(0, most), set(0, 1, most-1, most))
	for _, a := range rows {
		for _, b := range rows {
			for _, n := range []int{math.MinInt, -1, 0, 1, 4, most, most + 1, math.MaxInt} {
				answers(n, a, b)
			}
		}
	}
}

// Rule 0.5: what is handed in stays, with what lies in its spare room, and an answer is memory of its own.
func TestSpansStay(t *testing.T) {
	spare := api.Span{Lo: 77, Hi: 78}
	rows := append(unfit(), nil, set(0, 1), set(0, 4), set(1, 3), set(0, 1, 2, 3), set(1, 2, 3, 4))
	for _, a := range rows {
		for _, b := range rows {
			roomA, roomB := append(slices.Clone(a), spare, spare), append(slices.Clone(b), spare, spare)
			keptA, keptB := slices.Clone(roomA), slices.Clone(roomB)
			for _, got := range answers(4, roomA[:len(a)], roomB[:len(b)]) {
				clear(got)
				_ = append(got, api.Span{Lo: 5, Hi: 6})
			}
			if !slices.Equal(roomA, keptA) || !slices.Equal(roomB, keptB) {
				t.Errorf("%v and %v are now %v and %v", keptA, keptB, roomA, roomB)
			}
		}
	}
}

// Rule 0.5: no two answers share memory, nor does a later one hang on what became of an earlier one.
func TestAnswersAreFresh(t *testing.T) {
	a := set(0, 2, 4, 5)
	for name, call := range map[string]func() []api.Span{
		"Of":    func() []api.Span { return ranks.Of(5, []int{0, 1, 4}) },
		"Where": func() []api.Span { return ranks.Where([]bool{true, true, false, false, true}) },
		"Union": func() []api.Span { return ranks.Union(a, nil) },
		"Meet":  func() []api.Span { return ranks.Meet(a, a) },
		"Minus": func() []api.Span { return ranks.Minus(a, nil) },
		"Not":   func() []api.Span { return ranks.Not(5, set(2, 4)) },
	} {
		clear(call())
		if got := call(); !slices.Equal(got, a) {
			t.Errorf("%s tells %v behind a change", name, got)
		}
	}
	clear(ranks.All(3))
	clear(ranks.List(a))
	if !slices.Equal(ranks.All(3), set(0, 3)) || !slices.Equal(ranks.List(a), []int{0, 1, 4}) {
		t.Errorf("All and List tell %v and %v behind a change", ranks.All(3), ranks.List(a))
	}
}
