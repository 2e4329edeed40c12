package npmspec

import (
	"strings"

	"dovetail/api"
	"dovetail/semver"
)

// meaning is the comparators that a partial stands for behind an operator.
type meaning func(p partial) []api.NpmComp

type operator struct {
	sign  string
	means meaning
}

// operators is what may stand ahead of a partial; nothing may, too.
func operators() []operator {
	return []operator{
		{"", equal}, {"=", equal},
		{"<", less}, {"<=", upTo}, {">", more}, {">=", from},
		{"~", tilde}, {"~>", tilde}, {"^", caret},
	}
}

// operatorAt is the one with the longest sign that stands at a place.
func operatorAt(s string, at int) operator {
	var longest operator
	for _, o := range operators() {
		if strings.HasPrefix(s[at:], o.sign) && len(o.sign) >= len(longest.sign) {
			longest = o
		}
	}
	return longest
}

func equal(p partial) []api.NpmComp {
	switch p.told {
	case 0:
		return nil
	case 3:
		return one(api.CoEqual, p.beginning)
	}
	return within(p, p.told-1)
}

func more(p partial) []api.NpmComp {
	switch p.told {
	case 0:
		return none()
	case 3:
		return one(api.CoMore, p.beginning)
	}
	return one(api.CoFrom, semver.Next(p.beginning, p.told-1))
}

func from(p partial) []api.NpmComp {
	if p.told == 0 {
		return nil
	}
	return one(api.CoFrom, p.beginning)
}

func less(p partial) []api.NpmComp {
	switch p.told {
	case 0:
		return none()
	case 3:
		return one(api.CoLess, p.beginning)
	}
	return one(api.CoLess, first(p.beginning))
}

func upTo(p partial) []api.NpmComp {
	switch p.told {
	case 0:
		return nil
	case 3:
		return one(api.CoUpTo, p.beginning)
	}
	return one(api.CoLess, behind(p, p.told-1))
}

func tilde(p partial) []api.NpmComp {
	if p.told == 0 {
		return nil
	}
	return within(p, min(p.told-1, 1))
}

func caret(p partial) []api.NpmComp {
	switch {
	case p.told == 0:
		return nil
	case p.told == 1 || p.beginning.Major != "0":
		return within(p, 0)
	case p.told == 2 || p.beginning.Minor != "0":
		return within(p, 1)
	}
	return within(p, 2)
}

// none is what no version is, not even one with Pre.
func none() []api.NpmComp {
	return one(api.CoLess, first(api.Sem{Major: "0", Minor: "0", Patch: "0"}))
}

func one(op int, v api.Sem) []api.NpmComp { return []api.NpmComp{{Op: op, Ver: v}} }

// within is from a partial's beginning on, below the next one behind one of its numbers.
func within(p partial, number int) []api.NpmComp {
	return []api.NpmComp{{Op: api.CoFrom, Ver: p.beginning}, {Op: api.CoLess, Ver: behind(p, number)}}
}

// behind is the next one behind a partial's number. A partial is short enough that it is never too long for a version.
func behind(p partial, number int) api.Sem { return first(semver.Next(p.beginning, number)) }

// first is the version that is ahead of all others with its numbers.
func first(v api.Sem) api.Sem {
	v.Pre = []string{"0"}
	return v
}
