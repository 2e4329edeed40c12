package stanza_test

import (
	"slices"
	"testing"
	"unsafe"

	"dovetail/api"
	"dovetail/stanza"
)

// roomy is a list with spare room, in which something lies.
func roomy[T any](l []T, spare ...T) []T {
	return append(append(make([]T, 0, len(l)+len(spare)), l...), spare...)[:len(l)]
}

// roomyStanzas is stanzas of which each list has spare room.
func roomyStanzas(l []api.Stanza) []api.Stanza {
	var copied []api.Stanza
	for _, x := range l {
		copied = append(copied, api.Stanza{Line: x.Line, Fields: roomy(x.Fields, field("a", "spare", 1, 2, 3), field("b", "spare", 4, 5, 6))})
	}
	return roomy(copied, mixed(), wild())
}

// whole is stanzas with what lies in their spare room, in memory of their own.
func whole(l []api.Stanza) []api.Stanza {
	l = slices.Clone(l[:cap(l)])
	for i, x := range l {
		l[i].Fields = slices.Clone(x.Fields[:cap(x.Fields)])
	}
	return l
}

// overlap tells whether two lists lie in the same memory, spare room and all.
func overlap[A, B any](a []A, b []B) bool {
	if cap(a) == 0 || cap(b) == 0 {
		return false
	}
	var oneA A
	var oneB B
	startA, startB := uintptr(unsafe.Pointer(unsafe.SliceData(a))), uintptr(unsafe.Pointer(unsafe.SliceData(b)))
	return startA < startB+uintptr(cap(b))*unsafe.Sizeof(oneB) && startB < startA+uintptr(cap(a))*unsafe.Sizeof(oneA)
}

// 0.5: what is handed in stays as it was, its spare room too.
func TestHandedIn(t *testing.T) {
	texts := append(samples(), "a: 1\na: 2\nb: 3\nb: 4\n")
	lists := [][]api.Stanza{nil, {mixed()}, {wild()}, {mixed(), wild(), {}}, {of(plain("a", "1")), of(plain("b", ""), plain("b", "2"))}}
	for _, s := range texts {
		l, _ := stanza.Parse(s)
		lists = append(lists, l)
	}
	for _, l := range lists {
		room := roomyStanzas(l)
		kept := whole(room)
		stanza.Text(room)
		for _, x := range room {
			but := roomy([]string{"a", "", "x"}, "b", "c")
			for _, name := range []string{"a", "b", "", "A", "none"} {
				stanza.Get(x, name)
				found := stanza.All(x, name)
				if overlap(found, x.Fields) {
					t.Errorf("All(%+v, %q) is not memory of its own", x, name)
				}
				clear(found[:cap(found)])
			}
			stanza.Twice(x, nil)
			stanza.Twice(x, but)
			if !slices.Equal(but[:cap(but)], []string{"a", "", "x", "b", "c"}) {
				t.Errorf("what stands in but is now %q", but[:cap(but)])
			}
		}
		if !equal(whole(room), kept) {
			t.Errorf("%+v is now %+v", kept, whole(room))
		}
	}
}

// 0.5: what lies in spare room plays no part.
func TestSpareRoom(t *testing.T) {
	x := api.Stanza{Fields: roomy([]api.Field{plain("a", "1")}, plain("b", "2"), plain("a", "3"), plain("C", " "))}
	if f, ok := stanza.Get(x, "b"); ok {
		t.Errorf("Get = %+v", f)
	}
	if l := stanza.All(x, "a"); len(l) != 1 {
		t.Errorf("All = %+v", l)
	}
	if f, ok := stanza.Twice(x, nil); ok {
		t.Errorf("Twice = %+v", f)
	}
	writes(t, "a: 1\n", roomy([]api.Stanza{x}, x, api.Stanza{})...)
	x.Fields = x.Fields[:3]
	if f, ok := stanza.Twice(x, roomy([]string{"b"}, "a")); !ok || f.Value != "3" {
		t.Errorf("Twice = %+v, %v", f, ok)
	}
	if f, ok := stanza.Get(api.Stanza{Fields: x.Fields[:0]}, "a"); ok {
		t.Errorf("Get = %+v", f)
	}
	writes(t, "", api.Stanza{Fields: x.Fields[:0]})
}

// 0.5: no two lists of what Parse and Items answer share memory, nor do two calls' answers.
func TestAnswers(t *testing.T) {
	for _, s := range append(samples(), "a: 1\n\nb: 2\nc: 3\nd: 4\n\ne: 5\n\nf: 6\ng: 7\n") {
		first, f := stanza.Parse(s)
		second, g := stanza.Parse(s)
		if f != g || f != (api.Fault{}) || !equal(first, second) {
			t.Fatalf("Parse(%q): %v, %v", s, f, g)
		}
		for i, x := range first {
			if overlap(x.Fields, first) || overlap(x.Fields, second) || overlap(first, second) {
				t.Errorf("Parse(%q): lists share memory", s)
			}
			for j, y := range first {
				if i != j && overlap(x.Fields, y.Fields) || overlap(x.Fields, second[j].Fields) {
					t.Errorf("Parse(%q): lists share memory", s)
				}
			}
		}
		kept := whole(second)
		for _, x := range first {
			clear(x.Fields[:cap(x.Fields)])
		}
		if third, _ := stanza.Parse(s); !equal(whole(second), kept) || !equal(third, second) {
			t.Errorf("Parse(%q) = %+v at first, then %+v", s, second, third)
		}
	}
	list := plain("a", "b, c, d")
	first, second := stanza.Items(list, ','), stanza.Items(list, ',')
	if overlap(first, second) {
		t.Error("Items' answers share memory")
	}
	clear(first)
	if !slices.Equal(second, stanza.Items(list, ',')) {
		t.Error("Items answers something else then")
	}
}
