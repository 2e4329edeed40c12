package sets_test

import (
	"testing"

	"dovetail/sets"
)

func TestAdd(t *testing.T) {
	seen := sets.Texts{}
	for i, c := range []struct {
		text string
		want bool
	}{{"a", true}, {"", true}, {"a", false}, {"A", true}, {"", false}, {"b", true}, {"a", false}, {"\xff", true}, {"\xfe", true}, {"\xff", false}} {
		if got := seen.Add(c.text); got != c.want {
			t.Errorf("%d: Add(%q) = %v", i, c.text, got)
		}
	}
}
