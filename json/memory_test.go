package json_test

import (
	"math/rand"
	"slices"
	"strings"
	"testing"
	"unsafe"

	"dovetail/api"
	"dovetail/json"
)

// roomy is a value of which each list has spare room with something in it.
func roomy(j api.Json) api.Json {
	keys := append(append(make([]string, 0, len(j.Keys)+2), j.Keys...), "spare", "a")
	kids := make([]api.Json, 0, len(j.Kids)+2)
	for _, kid := range j.Kids {
		kids = append(kids, roomy(kid))
	}
	kids = append(kids, says(0, "spare"), number(5, "x"))
	j.Keys, j.Kids = keys[:len(j.Keys)], kids[:len(j.Kids)]
	return j
}

// whole is a value with what lies in its spare room, in memory of its own.
func whole(j api.Json) api.Json {
	j.Keys = slices.Clone(j.Keys[:cap(j.Keys)])
	j.Kids = slices.Clone(j.Kids[:cap(j.Kids)])
	for i, kid := range j.Kids {
		j.Kids[i] = whole(kid)
	}
	return j
}

// scribble writes over all lists of a value.
func scribble(j api.Json) {
	for _, kid := range j.Kids {
		scribble(kid)
	}
	clear(j.Keys[:cap(j.Keys)])
	clear(j.Kids[:cap(j.Kids)])
}

// rooms is where a value's lists lie, each from a place on and up to one.
func rooms(j api.Json) [][2]uintptr {
	var l [][2]uintptr
	if cap(j.Keys) > 0 {
		at := uintptr(unsafe.Pointer(unsafe.SliceData(j.Keys)))
		l = append(l, [2]uintptr{at, at + uintptr(cap(j.Keys))*unsafe.Sizeof("")})
	}
	if cap(j.Kids) > 0 {
		at := uintptr(unsafe.Pointer(unsafe.SliceData(j.Kids)))
		l = append(l, [2]uintptr{at, at + uintptr(cap(j.Kids))*unsafe.Sizeof(j)})
	}
	for _, kid := range j.Kids {
		l = append(l, rooms(kid)...)
	}
	return l
}

// shared tells whether two of some lists lie in the same memory.
func shared(l [][2]uintptr) bool {
	slices.SortFunc(l, func(a, b [2]uintptr) int { return slices.Compare(a[:], b[:]) })
	for i := range len(l) - 1 {
		if l[i][1] > l[i+1][0] {
			return true
		}
	}
	return false
}

// answers is what the calls that answer values answer, of a value.
func answers(j api.Json) []api.Json {
	l := []api.Json{json.Sorted(j)}
	for _, keys := range [][]string{nil, {"a"}, {"b"}, {"a", "b"}, {"c", "a"}} {
		got, _ := json.Path(j, keys...)
		l = append(l, got)
	}
	got, _ := json.Get(j, "a")
	return append(l, got)
}

// 0.5: what is handed in stays as it was, its spare room too, and is not kept; what is answered is memory of its own.
func TestMemory(t *testing.T) {
	source := rand.New(rand.NewSource(5))
	for i := range 3000 {
		j := anyWild(source, source.Intn(5))
		if i%3 == 0 {
			j = anyFit(source, source.Intn(4))
		}
		j = roomy(j)
		kept := whole(j)
		got := answers(j)
		json.Fit(j)
		json.Print(j)
		json.Same(j, j)
		json.Count(j)
		json.Depth(j)
		if !equal(whole(j), kept) {
			t.Fatalf("%+v is now %+v", kept, whole(j))
		}
		all := rooms(j)
		var clones []api.Json
		for _, answer := range got {
			all = append(all, rooms(answer)...)
			clones = append(clones, whole(answer))
		}
		if shared(all) {
			t.Fatalf("of %+v memory is shared", j)
		}
		if i%2 == 0 {
			for _, answer := range got {
				scribble(answer)
			}
			if !equal(whole(j), kept) || shared(rooms(j)) {
				t.Fatalf("%+v is now %+v", kept, whole(j))
			}
			continue
		}
		scribble(j)
		for k, answer := range got {
			if !equal(whole(answer), clones[k]) {
				t.Fatalf("an answer is now %+v, not %+v", answer, clones[k])
			}
		}
	}
}

// 0.5: one list in two places of a value is two in an answer.
func TestMemoryOnce(t *testing.T) {
	kids := []api.Json{number(2, "2"), number(1, "1")}
	keys := []string{"b", "a"}
	part := object(0, keys, kids...)
	part.Kids = kids
	j := object(0, keys, part, part)
	want := whole(j)
	for i, answer := range answers(list(0, j, j)) {
		if shared(rooms(answer)) {
			t.Errorf("answer %d shares memory", i)
		}
	}
	for i, answer := range answers(j) {
		if shared(append(rooms(answer), rooms(object(0, keys, kids...))...)) {
			t.Errorf("answer %d shares memory", i)
		}
	}
	if !equal(whole(j), want) {
		t.Errorf("%+v is now %+v", want, j)
	}
	if got := json.Print(json.Sorted(j)); got != `{"a":{"a":1,"b":2},"b":{"a":1,"b":2}}` {
		t.Errorf("Sorted is %s", got)
	}
	names := []string{"b", "a", "spare"}
	if got, ok := json.Path(j, names[:2]...); !ok || got.Text != "1" || strings.Join(names, " ") != "b a spare" {
		t.Errorf("Path = %+v, %v; its keys are now %q", got, ok, names)
	}
}

// 0.5: what Parse answers shares nothing, and one call's answer plays no part in another one's.
func TestParseMemory(t *testing.T) {
	for _, s := range append(samples(), `[{"a":1},{"a":1},{"a":[]},[[1],[1]]]`, `{"a":"x","b":["x","x"]}`) {
		first, f := json.Parse(s)
		second, g := json.Parse(s)
		if f != g || f != (api.Fault{}) || !equal(first, second) || shared(append(rooms(first), rooms(second)...)) {
			t.Fatalf("Parse(%q): %v, %v", s, f, g)
		}
		kept := whole(second)
		scribble(first)
		if third, _ := json.Parse(s); !equal(whole(second), kept) || !equal(third, second) {
			t.Errorf("Parse(%q) = %+v at first, then %+v", s, second, third)
		}
	}
}
