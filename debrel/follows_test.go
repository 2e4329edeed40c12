package debrel_test

import (
	"slices"
	"testing"

	"dovetail/api"
	"dovetail/debrel"
)

// copied is a relation with lists of its own.
func copied(l [][]api.DebAlt) [][]api.DebAlt {
	l = slices.Clone(l)
	for i, group := range l {
		l[i] = slices.Clone(group)
		for j, a := range group {
			a.Archs, a.Profs = slices.Clone(a.Archs), slices.Clone(a.Profs)
			for k, row := range a.Profs {
				a.Profs[k] = slices.Clone(row)
			}
			l[i][j] = a
		}
	}
	return l
}

// Rules 0.5 and 0.8: what is handed in stays as it was, its spare room too, and that plays no part.
func TestArgumentsStay(t *testing.T) {
	archs := terms("x", "y", "!spare", "SPARE")
	rows := [][]api.DebTerm{terms("p", "!spare")[:1], terms("!q"), nil, terms("SPARE")}
	group := one(api.DebAlt{Name: "bb", Archs: archs[:2]}, api.DebAlt{Name: "aa", Profs: rows[:2]}, api.DebAlt{Name: "SPARE", Archs: archs, Profs: rows})
	room := all(group[:2], named("dd", "cc", "SPARE")[:2], nil, group)
	profiles := []string{"p", "zz", "q"}
	l := room[:2]
	const want = "bb [x y] | aa <p> <!q>, dd | cc"
	keptArchs, keptRows, keptGroup, keptRoom, keptProfiles := slices.Clone(archs), copied(all(one(api.DebAlt{Profs: rows}))), copied(all(group)), copied(room), slices.Clone(profiles)
	for range 2 {
		if got := debrel.Format(l); got != want {
			t.Errorf("Format = %q", got)
		}
		if got := debrel.Format(debrel.Reduce(l, "x", profiles[:2])); got != "bb | aa, dd | cc" {
			t.Errorf("Reduce = %q", got)
		}
		if got := debrel.Format(debrel.Reduce(l, "spare", profiles[1:2])); got != "aa, dd | cc" {
			t.Errorf("Reduce = %q", got)
		}
		if got := debrel.Names(l); !slices.Equal(got, []string{"aa", "bb", "cc", "dd"}) {
			t.Errorf("Names = %q", got)
		}
		if a := group[0]; !debrel.Holds(a, "bb", "1") || !debrel.Provided(a, "bb", "") {
			t.Errorf("%+v does not hold", a)
		}
		if !slices.Equal(archs, keptArchs) || !same(all(one(api.DebAlt{Profs: rows})), keptRows) || !same(all(group), keptGroup) || !same(room, keptRoom) || !slices.Equal(profiles, keptProfiles) {
			t.Fatalf("what was handed in is now %+v, %+v, %+v, %q", archs, rows, room, profiles)
		}
		whole := room[1][:3]
		if whole[2].Name != "SPARE" {
			t.Fatalf("spare room is now %+v", whole)
		}
	}
}

// spoil writes over a relation, and over the spare room of all its lists.
func spoil(l [][]api.DebAlt) {
	for _, group := range l {
		for _, a := range group {
			for _, row := range a.Profs {
				clear(row[:cap(row)])
			}
			clear(a.Profs[:cap(a.Profs)])
			clear(a.Archs[:cap(a.Archs)])
		}
		clear(group[:cap(group)])
	}
	clear(l[:cap(l)])
}

// Rule 0.5: each answer is memory of its own, and so is each of its lists.
func TestAnswersAreNew(t *testing.T) {
	const s = "aa [x y z] <p q> <!r> <s t u> | bb [!x], cc <p>|dd [y]|ee, ff:x (= 1) [x] <q>"
	kept, f := debrel.Parse(s)
	if f != (api.Fault{}) || len(kept) != 3 {
		t.Fatalf("Parse(%q) = %+v, %v", s, kept, f)
	}
	for i := range kept {
		l, _ := debrel.Parse(s)
		spoil(l[i : i+1 : i+1])
		for j := range kept {
			if i != j && !same(l[j:j+1], kept[j:j+1]) {
				t.Errorf("groups of %q share memory: %+v", s, l)
			}
		}
		if again, g := debrel.Parse(s); g != f || !same(again, kept) {
			t.Errorf("Parse(%q) is then %+v", s, again)
		}
	}
	for i := range kept[0][0].Profs {
		l, _ := debrel.Parse(s)
		rows := l[0][0].Profs
		clear(rows[i][:cap(rows[i])])
		clear(l[0][0].Archs[:cap(l[0][0].Archs)])
		for j := range rows {
			if i != j && !slices.Equal(rows[j], kept[0][0].Profs[j]) || !sameAlt(l[0][1], kept[0][1]) {
				t.Errorf("lists of %q share memory: %+v", s, l)
			}
		}
	}
	l := copied(kept)
	profiles := []string{"p", "q"}
	got := debrel.Reduce(l, "x", profiles)
	if len(got) != 3 {
		t.Fatalf("Reduce = %+v", got)
	}
	last := copied(got[1:])
	spoil(got[:1:1])
	if !same(got[1:], last) {
		t.Errorf("groups of Reduce share memory: %+v", got)
	}
	spoil(got)
	bare := all(named("aa", "bb"), named("cc"))
	spoil(debrel.Reduce(bare, "x", nil))
	names := debrel.Names(bare)
	clear(names[:cap(names)])
	if !same(l, kept) || !same(bare, all(named("aa", "bb"), named("cc"))) || !slices.Equal(profiles, []string{"p", "q"}) {
		t.Errorf("answers share memory with what was handed in: %+v, %+v", l, bare)
	}
}
