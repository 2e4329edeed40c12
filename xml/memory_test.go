package xml_test

import (
	"math/rand"
	"slices"
	"testing"
	"unsafe"

	"dovetail/api"
	"dovetail/xml"
)

// roomy is an element of which each list has spare room with something in it.
func roomy(x api.Xml) api.Xml {
	attrs := append(slices.Clone(x.Attrs), attr("spare", "1"), attr("b", "2"))
	kids := make([]api.Xml, 0, len(x.Kids)+2)
	for _, kid := range x.Kids {
		kids = append(kids, roomy(kid))
	}
	kids = append(kids, plain("a", "spare"), plain("", attr("", "")))
	x.Attrs, x.Kids = attrs[:len(x.Attrs)], kids[:len(x.Kids)]
	return x
}

// whole is an element with what lies in its spare room, in memory of its own.
func whole(x api.Xml) api.Xml {
	x.Attrs = slices.Clone(x.Attrs[:cap(x.Attrs)])
	x.Kids = slices.Clone(x.Kids[:cap(x.Kids)])
	for i, kid := range x.Kids {
		x.Kids[i] = whole(kid)
	}
	return x
}

// scribble writes over all lists of an element.
func scribble(x api.Xml) {
	for _, kid := range x.Kids {
		scribble(kid)
	}
	clear(x.Attrs[:cap(x.Attrs)])
	clear(x.Kids[:cap(x.Kids)])
}

// room is where a list lies, spare room and all.
func room[T any](l []T) [2]uintptr {
	var one T
	at := uintptr(unsafe.Pointer(unsafe.SliceData(l)))
	return [2]uintptr{at, at + uintptr(cap(l))*unsafe.Sizeof(one)}
}

// rooms is where the lists of some elements lie.
func rooms(lists ...[]api.Xml) [][2]uintptr {
	var all [][2]uintptr
	for _, l := range lists {
		all = append(all, room(l))
		for _, x := range l {
			all = append(append(all, room(x.Attrs)), rooms(x.Kids)...)
		}
	}
	return all
}

// share tells whether two lists lie in the same memory.
func share(all [][2]uintptr) bool {
	all = slices.DeleteFunc(all, func(r [2]uintptr) bool { return r[0] == r[1] })
	slices.SortFunc(all, func(a, b [2]uintptr) int { return slices.Compare(a[:], b[:]) })
	for i := 1; i < len(all); i++ {
		if all[i-1][1] > all[i][0] {
			return true
		}
	}
	return false
}

// answers is what the calls that answer elements answer, of an element.
func answers(x api.Xml) [][]api.Xml {
	var l [][]api.Xml
	for _, name := range []string{"a", "b", "c", ""} {
		kid, _ := xml.Kid(x, name)
		l = append(l, []api.Xml{kid}, xml.Kids(x, name))
	}
	return l
}

// 0.5: what is handed in stays as it was, its spare room too, and is not kept; what is answered is memory of its own.
func TestMemory(t *testing.T) {
	source := rand.New(rand.NewSource(5))
	for i := range 3000 {
		x := anyWild(source, 1+source.Intn(5))
		if i%3 == 0 {
			x = anyFit(source, 1+source.Intn(4))
		}
		x = roomy(x)
		kept := whole(x)
		got := answers(x)
		names := []string{"a", "b", "spare"}
		xml.Value(x, names[:2]...)
		xml.Fit(x)
		xml.Print(x)
		xml.Same(x, x)
		xml.Count(x)
		if !equal(whole(x), kept) || !slices.Equal(names, []string{"a", "b", "spare"}) {
			t.Fatalf("%+v is now %+v", kept, whole(x))
		}
		if share(rooms(append(got, []api.Xml{x})...)) {
			t.Fatalf("of %+v memory is shared", x)
		}
		var clones []api.Xml
		for _, l := range got {
			clones = append(clones, whole(api.Xml{Kids: l}))
		}
		if i%2 == 0 {
			for _, l := range got {
				scribble(api.Xml{Kids: l})
			}
			if !equal(whole(x), kept) {
				t.Fatalf("%+v is now %+v", kept, whole(x))
			}
			continue
		}
		scribble(x)
		for k, l := range got {
			if !equal(whole(api.Xml{Kids: l}), clones[k]) {
				t.Fatalf("an answer is now %+v, not %+v", l, clones[k].Kids)
			}
		}
	}
}

// 0.5: one list in two places of an element is two in an answer.
func TestMemoryOnce(t *testing.T) {
	attrs := []api.Attr{attr("b", "1"), attr("c", "2")}
	inner := []api.Xml{{Name: "b", Attrs: attrs}, {Name: "a", Attrs: attrs}}
	part := api.Xml{Name: "a", Attrs: attrs, Kids: inner}
	x := api.Xml{Name: "a", Attrs: attrs, Kids: []api.Xml{part, part, {Name: "b", Kids: inner}}}
	want := whole(x)
	for i, l := range answers(x) {
		if share(append(rooms(l), room(attrs), room(inner), room(x.Kids))) {
			t.Errorf("answer %d shares memory", i)
		}
	}
	if !equal(whole(x), want) {
		t.Errorf("%+v is now %+v", want, x)
	}
}

// What lies in spare room plays no part.
func TestSpareRoom(t *testing.T) {
	x := roomy(plain("a", attr("b", ""), "x", plain("c", attr("d", ""))))
	if !xml.Fit(x) || xml.Print(x) != `<a b="">x<c d=""></c></a>` || xml.Count(x) != 2 || !xml.Same(x, plain("a", attr("b", ""), "x", plain("c", attr("d", "")))) {
		t.Errorf("fit %v, written %q, %d elements", xml.Fit(x), xml.Print(x), xml.Count(x))
	}
	kids(t, x, "a")
	kids(t, x, "c", plain("c", attr("d", "")))
	if s, ok := xml.Value(x, "a"); ok || s != "" {
		t.Errorf("Value = %q, %v", s, ok)
	}
	names := []string{"c", "a"}
	if s, ok := xml.Value(x, names[:1]...); !ok || s != "" {
		t.Errorf("Value = %q, %v", s, ok)
	}
}

// 0.5: what Parse answers shares nothing, and one call's answer plays no part in another one's.
func TestParseMemory(t *testing.T) {
	for _, s := range append(samples(), "<a b='' c='' d=''><b e='' f='' g=''/><b/><b><c/><c/><c/></b></a>") {
		first, f := xml.Parse(s)
		second, g := xml.Parse(s)
		if f != g || f != (api.Fault{}) || !equal(first, second) || share(rooms([]api.Xml{first}, []api.Xml{second})) {
			t.Fatalf("Parse(%q): %v, %v", s, f, g)
		}
		kept := whole(second)
		scribble(first)
		if third, _ := xml.Parse(s); !equal(whole(second), kept) || !equal(third, second) {
			t.Errorf("Parse(%q) = %+v at first, then %+v", s, second, third)
		}
	}
}
