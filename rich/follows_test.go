package rich_test

import (
	"math/rand"
	"slices"
	"strings"
	"testing"

	"dovetail/api"
	"dovetail/rich"
)

// someFit is many fit dependencies, chosen by a fixed source.
func someFit(seed int64, count int) []api.Rich {
	source := rand.New(rand.NewSource(seed))
	var l []api.Rich
	for _, r := range fitOnes() {
		l = append(l, r)
	}
	for len(l) < count {
		if r := anyOf(source, source.Intn(5)); rich.Fit(r) {
			l = append(l, r)
		}
	}
	return l
}

// P13.6: there and back.
func TestThereAndBack(t *testing.T) {
	for _, r := range someFit(6, 10000) {
		text := rich.Text(r)
		if again, f := rich.Parse(text); f != (api.Fault{}) || !same(again, r) || text != written(r) {
			t.Fatalf("%+v is written %q, which is read as %+v, %v", r, text, again, f)
		}
	}
}

// P13.6: blanks more, where one stands, at the ends, and ahead of a ) of a rich one.
func TestBlanksMore(t *testing.T) {
	source := rand.New(rand.NewSource(66))
	blanks := func() string { return strings.Repeat(" ", source.Intn(2)) + strings.Repeat("\t", source.Intn(2)) }
	count := 0
	for _, r := range someFit(7, 5000) {
		s := blanks()
		// Blanks stand outside of names alone.
		for i, piece := range strings.SplitAfter(rich.Text(r), " ") {
			if i > 0 {
				s += blanks()
			}
			s += piece
		}
		s += blanks()
		if len(s) > 256 {
			continue
		}
		count++
		if again, f := rich.Parse(s); f != (api.Fault{}) || !same(again, r) {
			t.Fatalf("%q is read as %+v, %v, not %+v", s, again, f, r)
		}
	}
	if count < 3000 {
		t.Errorf("only %d texts", count)
	}
	want := iff(is("a(x)"), has("b", "=", "1"), or(is("c"), is("d")))
	const marked = "~(a(x)_if_b_=_1_else_(c_or_d~)~)~"
	for _, b := range []string{" ", "\t", "  ", " \t \t"} {
		for i := range len(marked) {
			if strings.IndexByte("~_", marked[i]) < 0 {
				continue
			}
			// Just one of the places has blanks more.
			reads(t, map[string]api.Rich{strings.NewReplacer("~", "", "_", " ").Replace(marked[:i]) + b + strings.NewReplacer("~", "", "_", " ").Replace(marked[i+1:]): want})
		}
		reads(t, map[string]api.Rich{strings.NewReplacer("~", b, "_", b).Replace(marked): want})
	}
}

// P13.7: by parts.
func TestByParts(t *testing.T) {
	source := rand.New(rand.NewSource(77))
	for range 10000 {
		a, b, c := anyOf(source, 1), anyOf(source, 1), anyOf(source, 1)
		packages := anyPackages(source)
		holdsA, holdsB, holdsC := rich.Holds(a, packages), rich.Holds(b, packages), rich.Holds(c, packages)
		for _, c := range []struct {
			r    api.Rich
			want bool
		}{
			{and(a, b), holdsA && holdsB}, {and(a, b, c), holdsA && holdsB && holdsC}, {or(a, b), holdsA || holdsB}, {or(a, b, c), holdsA || holdsB || holdsC}, {iff(a, b), holdsA || !holdsB}, {iff(a, b, c), (holdsA || !holdsB) && (holdsB || holdsC)}, {unless(a, b), holdsA && !holdsB}, {unless(a, b, c), holdsA && !holdsB || holdsC && holdsB},
		} {
			if rich.Holds(c.r, packages) != c.want {
				t.Fatalf("%s with %+v is not %v", rich.Text(c.r), packages, c.want)
			}
		}
	}
}

// P13.7: with implies both, without the first.
func TestWithImplies(t *testing.T) {
	source := rand.New(rand.NewSource(777))
	counts := map[int]int{}
	for range 20000 {
		a, b := anyOf(source, 0), anyOf(source, 0)
		packages := anyPackages(source)
		if rich.Holds(with(a, b), packages) {
			counts[api.RiWith]++
			if !rich.Holds(a, packages) || !rich.Holds(b, packages) {
				t.Fatalf("%s with %+v", rich.Text(with(a, b)), packages)
			}
		}
		if rich.Holds(without(a, b), packages) {
			counts[api.RiWithout]++
			if !rich.Holds(a, packages) {
				t.Fatalf("%s with %+v", rich.Text(without(a, b)), packages)
			}
		}
	}
	if counts[api.RiWith] < 200 || counts[api.RiWithout] < 200 {
		t.Errorf("too few hold: %v", counts)
	}
}

// grows tells whether a dependency has neither if, unless nor without.
func grows(r api.Rich) bool {
	return r.Op != api.RiIf && r.Op != api.RiUnless && r.Op != api.RiWithout && !slices.ContainsFunc(r.Subs, func(sub api.Rich) bool { return !grows(sub) })
}

// P13.8
func TestMorePackages(t *testing.T) {
	source := rand.New(rand.NewSource(8))
	count := 0
	for range 60000 {
		r := anyOf(source, source.Intn(3))
		packages := anyPackages(source)
		if !grows(r) || !rich.Holds(r, packages) {
			continue
		}
		count++
		more := slices.Concat(anyPackages(source), packages, anyPackages(source))
		if !rich.Holds(r, more) {
			t.Fatalf("%s holds with %+v, not with %+v", rich.Text(r), packages, more)
		}
	}
	if count < 2000 {
		t.Errorf("only %d", count)
	}
}

// copied is a dependency with lists of its own, their spare room too.
func copied(r api.Rich) api.Rich {
	r.Subs = copiedList(r.Subs)
	return r
}

func copiedList(l []api.Rich) []api.Rich {
	c := slices.Clone(l[:cap(l)])
	for i, r := range c {
		c[i] = copied(r)
	}
	return c[:len(l):len(c)]
}

// sameRoom is same, with what lies in the lists' spare room.
func sameRoom(a, b api.Rich) bool {
	return a.Op == b.Op && a.Name == b.Name && a.Cmp == b.Cmp && a.Evr == b.Evr && len(a.Subs) == len(b.Subs) && slices.EqualFunc(a.Subs[:cap(a.Subs)], b.Subs[:cap(b.Subs)], sameRoom)
}

// Rules 0.5 and 0.8: what is handed in stays as it was, its spare room too, and that plays no part.
func TestArgumentsStay(t *testing.T) {
	spare := []api.Rich{{Op: 9, Name: "spare"}, is("c"), or(is("a"), is("b"))}
	room := func(l ...api.Rich) []api.Rich { return slices.Concat(l, spare)[:len(l)] }
	a := api.Rich{Op: api.RiCap, Name: "a", Subs: room()}
	for _, r := range []api.Rich{
		a, {Op: api.RiOr, Subs: room(a, is("b"))}, {Op: api.RiIf, Subs: room(api.Rich{Op: api.RiAnd, Subs: room(a, is("b"))}, is("b"))}, {Op: api.RiWith, Subs: room(a, a)}, {Op: api.RiWithout, Subs: room(a, is("c"))}, {Op: api.RiAnd, Subs: room(a)}, {Op: api.RiUnless, Subs: room(a, api.Rich{Op: 8, Subs: room(a)})},
	} {
		packages := [][]api.Rich{room(a, has("b", "=", "1")), room(), room(spare...), room(is("zz"))}[:2]
		bare := func(r api.Rich) api.Rich {
			q, _ := rich.Parse(written(r))
			return q
		}
		kept, keptPackages := copied(r), slices.Clone(packages[:4])
		for i, l := range keptPackages {
			keptPackages[i] = copiedList(l)
		}
		for range 2 {
			if rich.Fit(r) != rich.Fit(bare(r)) || rich.Text(r) != rich.Text(bare(r)) || !slices.EqualFunc(rich.Caps(r), rich.Caps(bare(r)), same) {
				t.Errorf("spare room of %+v plays a part: %v, %q, %+v", r, rich.Fit(r), rich.Text(r), rich.Caps(r))
			}
			want := rich.Holds(bare(r), [][]api.Rich{{is("a"), has("b", "=", "1")}, nil})
			if rich.Holds(r, packages) != want || rich.Overlaps(r, a) != rich.Overlaps(bare(r), is("a")) || rich.Overlaps(a, r) != rich.Overlaps(is("a"), bare(r)) {
				t.Errorf("spare room of %+v plays a part", r)
			}
			if !sameRoom(r, kept) || !slices.EqualFunc(packages[:4], keptPackages, func(x, y []api.Rich) bool {
				return sameRoom(api.Rich{Subs: x}, api.Rich{Subs: y})
			}) {
				t.Fatalf("what was handed in is now %+v, %+v", r, packages)
			}
		}
	}
}

// spoil writes over a dependency's lists, and over their spare room.
func spoil(l []api.Rich) {
	for _, r := range l {
		spoil(r.Subs)
	}
	clear(l[:cap(l)])
}

// Rule 0.5: each answer is memory of its own, and so is each of its lists.
func TestAnswersAreNew(t *testing.T) {
	const s = "((a or b or c) and ((d with e) if f else (g without h)) and (i or j = 1 or k or l))"
	kept, f := rich.Parse(s)
	if f != (api.Fault{}) || len(kept.Subs) != 3 {
		t.Fatalf("Parse(%q) = %+v, %v", s, kept, f)
	}
	for i := range kept.Subs {
		r, _ := rich.Parse(s)
		spoil(r.Subs[i].Subs)
		for j := range kept.Subs {
			if i != j && !same(r.Subs[j], kept.Subs[j]) {
				t.Errorf("lists of %q share memory: %+v", s, r)
			}
		}
		if again, g := rich.Parse(s); g != f || !same(again, kept) {
			t.Errorf("Parse(%q) is then %+v", s, again)
		}
	}
	r := copied(kept)
	caps := rich.Caps(r)
	if len(caps) != 12 {
		t.Fatalf("Caps = %+v", caps)
	}
	spoil(caps)
	empty := api.Rich{Op: api.RiCap, Name: "a", Subs: named("b")[:0]}
	for _, c := range rich.Caps(empty) {
		_ = append(c.Subs, is("spoilt"))
	}
	if !same(r, kept) || empty.Subs[:1][0].Name != "b" || len(rich.Caps(r)) != 12 {
		t.Errorf("answers share memory with what was handed in: %+v, %+v", r, empty)
	}
}
