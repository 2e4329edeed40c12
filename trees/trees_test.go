package trees_test

import (
	"slices"
	"strconv"
	"strings"
	"testing"

	"dovetail/trees"
)

// words is the parts of a text: what stands between its commas, or, if it has none, its bytes; one byte has no parts.
func words(s string) []string {
	switch {
	case len(s) < 2:
		return nil
	case strings.Contains(s, ","):
		return strings.Split(s, ",")
	}
	return strings.Split(s, "")
}

func TestAll(t *testing.T) {
	for whole, want := range map[string][]string{
		"": {"0"}, "a": {"0a"}, "ab": {"0ab", "1a", "1b"}, "ab,c,de": {"0ab,c,de", "1ab", "2a", "2b", "1c", "1de", "2d", "2e"},
	} {
		var got []string
		for depth, part := range trees.All(whole, words) {
			got = append(got, strconv.Itoa(depth)+part)
		}
		if !slices.Equal(got, want) {
			t.Errorf("All(%q) = %q, not %q", whole, got, want)
		}
		// It is left wherever one likes.
		for stop := range got {
			count := 0
			for range trees.All(whole, words) {
				if count == stop {
					break
				}
				count++
			}
			if count != stop {
				t.Errorf("All(%q) goes on behind %d", whole, stop)
			}
		}
	}
}

func TestDeep(t *testing.T) {
	const most = 1 << 16
	deepest := 0
	for depth := range trees.All(most, func(left int) []int { return []int{left - 1}[:min(left, 1)] }) {
		deepest = depth
	}
	if deepest != most {
		t.Errorf("%d deep", deepest)
	}
}
