package pyspec

import (
	"slices"

	"dovetail/api"
	"dovetail/pep"
	"dovetail/scan"
)

// operator is how the word behind a sign is read, and of which versions it holds then. One that opens lets pre-releases in, if it asks for one.
type operator struct {
	sign  string
	reads reader
	holds func(v, asked version) bool
	opens bool
}

func operators() []operator {
	return []operator{
		{"~=", readCompatible, compatible, true},
		{"==", readStarred, equal, true},
		{"!=", readStarred, unequal, false},
		{"<=", readPublic, upTo, true},
		{">=", readPublic, from, true},
		{"<", readPublic, less, false},
		{">", readPublic, more, false},
		{"===", readText, sameText, false},
	}
}

func equal(v, asked version) bool {
	switch {
	case asked.star:
		return begins(v.Pep, asked.Pep)
	case isPublic(asked.Pep):
		return orderPublic(v, asked) == 0
	}
	return pep.Order(v.Pep, asked.Pep) == 0
}

func unequal(v, asked version) bool { return !equal(v, asked) }

func compatible(v, asked version) bool {
	beginning := base(asked.Pep)
	beginning.Release = beginning.Release[:len(beginning.Release)-1]
	return from(v, asked) && begins(v.Pep, beginning)
}

func upTo(v, asked version) bool { return orderPublic(v, asked) <= 0 }

func from(v, asked version) bool { return orderPublic(v, asked) >= 0 }

// less does not take a release's own pre-releases for less.
func less(v, asked version) bool {
	own := sameBase(v, asked) && pep.Pre(v.Pep) && !pep.Pre(asked.Pep)
	return !own && pep.Order(v.Pep, asked.Pep) < 0
}

// more does not take what is made of the same release for more.
func more(v, asked version) bool {
	own := sameBase(v, asked) && (!isPublic(v.Pep) || v.Post && !asked.Post)
	return !own && pep.Order(v.Pep, asked.Pep) > 0
}

func sameText(v, asked version) bool { return scan.Lower(v.text) == scan.Lower(asked.text) }

// orderPublic is the order of a version without its local part and of one that has none.
func orderPublic(v, asked version) int { return pep.Order(pep.Public(v.Pep), asked.Pep) }

func isPublic(v api.Pep) bool { return len(v.Local) == 0 }

// isBase tells whether a version is an epoch and a release alone.
func isBase(v api.Pep) bool { return isPublic(v) && v.Pre == 0 && !v.Post && !v.Dev }

func base(v api.Pep) api.Pep { return api.Pep{Epoch: v.Epoch, Release: v.Release} }

func sameBase(v, asked version) bool { return pep.Order(base(v.Pep), base(asked.Pep)) == 0 }

// begins tells whether a version's release, with noughts laid behind, goes on from a beginning of the same epoch.
func begins(v, beginning api.Pep) bool {
	missing := max(0, len(beginning.Release)-len(v.Release))
	release := slices.Concat(v.Release, slices.Repeat([]string{"0"}, missing))
	return v.Epoch == beginning.Epoch && slices.Equal(release[:len(beginning.Release)], beginning.Release)
}
