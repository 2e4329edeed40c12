package ranks_test

import (
	"math"
	"slices"
	"strings"
	"testing"

	"dovetail/api"
	"dovetail/checks"
	"dovetail/ranks"
)

// most is how many ranks a set is below at most.
const most = 65536

// set is spans, told as where each begins and ends.
func set(edges ...int) []api.Span {
	var s []api.Span
	for pair := range slices.Chunk(edges, 2) {
		s = append(s, api.Span{Lo: pair[0], Hi: pair[1]})
	}
	return s
}

// evens is every second rank, as many spans as a set can have.
func evens() []api.Span {
	var s []api.Span
	for lo := 0; lo < most; lo += 2 {
		s = append(s, api.Span{Lo: lo, Hi: lo + 1})
	}
	return s
}

// unfit is spans that are a set below no number.
func unfit() [][]api.Span {
	return [][]api.Span{
		set(-1, 1), set(-1, 0), set(-2, -1), set(math.MinInt, 1), set(math.MinInt, math.MaxInt), set(math.MinInt, math.MinInt),
		set(0, 0), set(1, 1), set(2, 1), set(1, -1), set(math.MaxInt, math.MinInt), set(math.MaxInt, 0), set(math.MaxInt, math.MaxInt), set(1, math.MinInt),
		set(0, 65537), set(65536, 65537), set(65536, 65536), set(0, math.MaxInt), set(math.MaxInt-1, math.MaxInt), set(0, 1<<40),
		set(0, 1, 1, 2), set(0, 2, 2, 3), set(0, 2, 1, 3), set(0, 3, 1, 2), set(0, 1, 0, 1), set(0, 2, 0, 3), set(0, 3, 1, 3),
		set(2, 3, 0, 1), set(3, 4, 1, 2), set(4, 5, 0, 1, 2, 3), set(0, 1, 4, 5, 2, 3), set(0, 1, 2, 3, 3, 4), set(0, 1, 2, 2), set(0, 1, 3, 2), set(0, 1, 2, math.MaxInt), set(0, math.MaxInt, 1, 2), set(math.MinInt, 0, 2, 3), set(0, math.MaxInt, math.MinInt, 0),
	}
}

// P7.1
func TestFit(t *testing.T) {
	for _, c := range []struct {
		n    int
		s    []api.Span
		want bool
	}{
		{0, nil, true}, {0, []api.Span{}, true}, {1, nil, true}, {9, nil, true}, {most, nil, true},
		{0, set(0, 1), false}, {1, set(0, 1), true}, {1, set(0, 2), false}, {1, set(1, 2), false}, {2, set(1, 2), true}, {3, set(1, 2), true},
		{9, set(1, 3, 5, 6), true}, {6, set(1, 3, 5, 6), true}, {5, set(1, 3, 5, 6), false}, {4, set(1, 3, 5, 6), false},
		{9, set(0, 1, 2, 3), true}, {9, set(0, 1, 2, 3, 4, 9), true}, {8, set(0, 1, 2, 3, 4, 9), false}, {4, set(0, 9, 10, 11), false},
		{most, set(0, most), true}, {most - 1, set(0, most), false}, {most, set(most-1, most), true}, {most, set(0, 1, most-1, most), true}, {most, evens(), true}, {most - 2, evens(), false}, {most - 1, evens(), true},
		// Sets are below numbers from 0 to 65536.
		{-1, nil, false}, {-1, set(0, 1), false}, {-1, set(-3, -2), false}, {math.MinInt, nil, false},
		{most + 1, nil, false}, {most + 1, set(0, 1), false}, {most + 1, set(0, most+1), false}, {math.MaxInt, nil, false}, {math.MaxInt, set(0, math.MaxInt), false},
	} {
		if got := ranks.Fit(c.n, c.s); got != c.want {
			t.Errorf("Fit(%d, %s) = %v", c.n, ranks.Text(c.s), got)
		}
	}
	for _, s := range unfit() {
		for _, n := range []int{math.MinInt, -1, 0, 1, 2, 5, most, most + 1, math.MaxInt} {
			if ranks.Fit(n, s) {
				t.Errorf("Fit(%d, %v)", n, s)
			}
		}
	}
}

// spanRows is all rows of up to three spans whose ends are from -1 to 5.
func spanRows() [][]api.Span {
	var singles []api.Span
	for lo := -1; lo <= 5; lo++ {
		for hi := -1; hi <= 5; hi++ {
			singles = append(singles, api.Span{Lo: lo, Hi: hi})
		}
	}
	return checks.Lists(singles, 3)
}

// P7.1: of all rows just those are fit that are the spans of a set.
func TestFitEverywhere(t *testing.T) {
	all := spanRows()
	for n := -2; n <= 5; n++ {
		var want [][]api.Span
		if n >= 0 {
			want = sets(n)
		}
		for _, row := range all {
			isSet := slices.ContainsFunc(want, func(s []api.Span) bool { return slices.Equal(s, row) })
			if got := ranks.Fit(n, row); got != isSet {
				t.Fatalf("Fit(%d, %v) = %v", n, row, got)
			}
		}
	}
}

// P7.2
func TestOf(t *testing.T) {
	for _, c := range []struct {
		n    int
		l    []int
		want []api.Span
	}{
		{9, []int{5, 1, 2, 9}, set(1, 3, 5, 6)}, {9, nil, nil}, {9, []int{}, nil}, {9, []int{8}, set(8, 9)}, {9, []int{9}, nil}, {9, []int{10, -1}, nil}, {9, []int{0}, set(0, 1)},
		{9, []int{3, 3, 3}, set(3, 4)}, {9, []int{4, 3, 4, 2, 3}, set(2, 5)}, {9, []int{8, 7, 6, 5, 4, 3, 2, 1, 0}, set(0, 9)}, {9, []int{0, 2, 4, 6, 8}, set(0, 1, 2, 3, 4, 5, 6, 7, 8, 9)}, {9, []int{6, 0, 1, 7}, set(0, 2, 6, 8)},
		{9, []int{-1, 0, -2, 1, math.MinInt, math.MaxInt, 12}, set(0, 2)}, {1, []int{0, 1, 2}, set(0, 1)}, {2, []int{2, 1}, set(1, 2)},
		{0, []int{0, 1, -1}, nil}, {-1, []int{0, -1, -2}, nil}, {math.MinInt, []int{0, math.MinInt}, nil},
		{most, []int{most - 1, most, 0}, set(0, 1, most-1, most)}, {most + 1, []int{most - 1, most, most + 1}, set(most-1, most)}, {math.MaxInt, []int{most - 1, most, math.MaxInt - 1}, set(most-1, most)}, {most - 1, []int{most - 1, most - 2}, set(most-2, most-1)},
	} {
		kept := slices.Clone(c.l)
		if got := ranks.Of(c.n, c.l); !slices.Equal(got, c.want) {
			t.Errorf("Of(%d, %v) = %v, not %v", c.n, c.l, got, c.want)
		}
		if !slices.Equal(kept, c.l) {
			t.Errorf("Of(%d, %v) has changed its list to %v", c.n, kept, c.l)
		}
	}
}

// P7.2 by its words, and P7.7: the answer is fit, and its List has each of the numbers once, rising.
func TestOfEverywhere(t *testing.T) {
	for _, l := range checks.Lists([]int{-1, 0, 1, 2, 3, 4}, 5) {
		for n := -1; n <= 4; n++ {
			var want []int
			for rank := range n {
				if slices.Contains(l, rank) {
					want = append(want, rank)
				}
			}
			got := ranks.Of(n, l)
			if !ranks.Fit(max(n, 0), got) || !slices.Equal(ranks.List(got), want) {
				t.Fatalf("Of(%d, %v) = %v", n, l, got)
			}
		}
	}
}

// P7.2
func TestWhere(t *testing.T) {
	for _, c := range []struct {
		l    string
		want []api.Span
	}{
		{"", nil}, {"-", nil}, {"---", nil}, {"+", set(0, 1)}, {"+++", set(0, 3)}, {"-+", set(1, 2)}, {"+-", set(0, 1)}, {"-++-+", set(1, 3, 4, 5)}, {"+-+-+", set(0, 1, 2, 3, 4, 5)}, {"--++--", set(2, 4)}, {"++--++", set(0, 2, 4, 6)},
		{strings.Repeat("+", most-1), set(0, most-1)}, {strings.Repeat("+", most), set(0, most)}, {strings.Repeat("+", most+1), set(0, most)}, {strings.Repeat("+", most+500), set(0, most)},
		{strings.Repeat("-", most-1) + "+", set(most-1, most)}, {strings.Repeat("-", most) + "+", nil}, {strings.Repeat("-", most-1) + "+-+", set(most-1, most)}, {strings.Repeat("+-", most/2) + "+-+", evens()},
	} {
		l := make([]bool, len(c.l))
		for i := range c.l {
			l[i] = c.l[i] == '+'
		}
		kept := slices.Clone(l)
		if got := ranks.Where(l); !slices.Equal(got, c.want) {
			t.Errorf("Where of %d = %.80s", len(l), ranks.Text(got))
		}
		if !slices.Equal(kept, l) {
			t.Errorf("Where of %d has changed its list", len(l))
		}
	}
	if got := ranks.Where(nil); len(got) != 0 {
		t.Errorf("Where(nil) = %v", got)
	}
}

// P7.2
func TestAll(t *testing.T) {
	for n, want := range map[int][]api.Span{
		math.MinInt: nil, -1: nil, 0: nil, 1: set(0, 1), 2: set(0, 2), most - 1: set(0, most-1), most: set(0, most), most + 1: set(0, most), math.MaxInt: set(0, most),
	} {
		if got := ranks.All(n); !slices.Equal(got, want) {
			t.Errorf("All(%d) = %v", n, got)
		}
	}
}

// P7.4
func TestHas(t *testing.T) {
	s := set(1, 3, 5, 6, 9, 12)
	for rank, want := range map[int]bool{
		math.MinInt: false, -1: false, 0: false, 1: true, 2: true, 3: false, 4: false, 5: true, 6: false, 7: false, 8: false, 9: true, 10: true, 11: true, 12: false, 13: false, most: false, math.MaxInt: false,
	} {
		if got := ranks.Has(s, rank); got != want {
			t.Errorf("Has(%v, %d) = %v", s, rank, got)
		}
		if ranks.Has(nil, rank) {
			t.Errorf("none has %d", rank)
		}
	}
	all, some := ranks.All(most), evens()
	for rank := -3; rank < most+3; rank++ {
		inside := 0 <= rank && rank < most
		if ranks.Has(all, rank) != inside {
			t.Errorf("Has(All, %d) = %v", rank, !inside)
		}
		if want := inside && rank%2 == 0; ranks.Has(some, rank) != want {
			t.Errorf("Has of every second rank, %d = %v", rank, !want)
		}
	}
}

// P7.4
func TestListAndCount(t *testing.T) {
	for _, c := range []struct {
		s    []api.Span
		want []int
	}{
		{nil, nil}, {[]api.Span{}, nil}, {set(0, 1), []int{0}}, {set(7, 8), []int{7}}, {set(0, 3), []int{0, 1, 2}}, {set(1, 3, 5, 6), []int{1, 2, 5}}, {set(0, 1, 2, 3, 4, 6), []int{0, 2, 4, 5}}, {set(most-2, most), []int{most - 2, most - 1}},
	} {
		if got := ranks.List(c.s); !slices.Equal(got, c.want) {
			t.Errorf("List(%v) = %v", c.s, got)
		}
		if got := ranks.Count(c.s); got != len(c.want) {
			t.Errorf("Count(%v) = %d", c.s, got)
		}
	}
	all := ranks.List(ranks.All(most))
	if len(all) != most || !slices.IsSorted(all) || all[0] != 0 || all[most-1] != most-1 || ranks.Count(ranks.All(most)) != most {
		t.Errorf("List(All) has %d, Count %d", len(all), ranks.Count(ranks.All(most)))
	}
	some := ranks.List(evens())
	if len(some) != most/2 || some[1] != 2 || some[most/2-1] != most-2 || ranks.Count(evens()) != most/2 {
		t.Errorf("List of every second rank has %d, Count %d", len(some), ranks.Count(evens()))
	}
}

// P7.4: Same goes span by span, of spans that are no set too.
func TestSame(t *testing.T) {
	rows := append(unfit(), nil, set(0, 1), set(0, 2), set(1, 2), set(0, 1, 2, 3), set(0, 1, 2, 4), set(0, 1, 2, 3, 5, 6), set(0, most), evens())
	for i, a := range rows {
		for j, b := range rows {
			if got := ranks.Same(a, slices.Clone(b)); got != (i == j) {
				t.Errorf("Same(%v, %v) = %v", a, b, got)
			}
		}
	}
	if !ranks.Same(nil, []api.Span{}) || !ranks.Same([]api.Span{}, nil) || !ranks.Same(nil, nil) {
		t.Error("none is not the same as none")
	}
	// The same ranks, but other spans.
	if ranks.Same(set(0, 2), set(0, 1, 1, 2)) || ranks.Same(nil, set(3, 3)) || ranks.Same(set(0, 1, 2, 3), set(2, 3, 0, 1)) {
		t.Error("spans that are unlike are the same")
	}
}

// P7.5
func TestText(t *testing.T) {
	for _, c := range []struct {
		s    []api.Span
		want string
	}{
		{nil, "none"}, {[]api.Span{}, "none"}, {set(0, 1), "0"}, {set(0, 2), "0-1"}, {set(7, 8), "7"}, {set(9, 11), "9-10"}, {set(1, 3, 5, 6), "1-2,5"}, {set(0, 1, 2, 3), "0,2"}, {set(0, 1, 2, 3, 4, 9), "0,2,4-8"}, {set(0, 5, 10, 100, 1000, 1001), "0-4,10-99,1000"}, {set(0, most), "0-65535"}, {set(most-1, most), "65535"},
	} {
		if got := ranks.Text(c.s); got != c.want {
			t.Errorf("Text(%v) = %q, not %q", c.s, got, c.want)
		}
	}
	if got := ranks.Text(evens()); !strings.HasPrefix(got, "0,2,4,") || !strings.HasSuffix(got, ",65532,65534") || strings.Count(got, ",") != most/2-1 {
		t.Errorf("Text of every second rank = %.40s", got)
	}
}
