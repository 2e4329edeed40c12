package pyspec

import (
	"iter"
	"strings"

	"dovetail/api"
	"dovetail/faults"
	"dovetail/pep"
	"dovetail/scan"
)

// anyRest is what stands behind a version of which only the beginning is asked for.
const anyRest = ".*"

// version is a version, and its text. A clause's may be asked for by its beginning alone; behind === it is only a text.
type version struct {
	api.Pep
	text string
	star bool
}

// clause is an operator with the version behind it, and where it begins and ends. One that is wrong ends at its fault.
type clause struct {
	operator
	asked      version
	start, end int
	err        api.Errno
}

func (c clause) plain() api.PyClause {
	return api.PyClause{Op: c.sign, Ver: c.asked.text, Star: c.asked.star}
}

func (c clause) letsPreIn() bool { return c.opens && pep.Pre(c.asked.Pep) }

// readClauses reads a text with what its clauses mean.
func readClauses(s string) ([]clause, api.Fault) {
	if len(s) > api.MaxSpec {
		return nil, api.Fault{Err: api.ErrLong, At: api.MaxSpec}
	}
	if scan.Run(s, 0, api.CsBlank) == len(s) {
		return nil, api.Fault{}
	}
	var l []clause
	var f api.Fault
reading:
	for c := range clauses(s) {
		switch {
		case len(l) == api.MaxTerms && c.start < len(s):
			f = api.Fault{Err: api.ErrLong, At: c.start}
			break reading
		case c.err != api.OK:
			f = api.Fault{Err: c.err, At: c.end}
			break reading
		}
		l = append(l, c)
	}
	if f.Err != api.OK {
		return nil, f
	}
	return l, f
}

// clauses hands out what stands ahead of each comma, and behind the last one. It must be left at a clause that is wrong: what comes behind that says nothing.
func clauses(s string) iter.Seq[clause] {
	return func(yield func(clause) bool) {
		for at := 0; at <= len(s); {
			c := readClause(s, scan.Run(s, at, api.CsBlank))
			if !yield(c) {
				return
			}
			at = c.end + len(",")
		}
	}
}

// readClause reads the clause that begins at a place, up to the comma behind it, or the text's end.
func readClause(s string, start int) clause {
	c := clause{start: start}
	c.operator, c.end, c.err = readOperator(s, start)
	if c.err == api.OK {
		c.asked, c.end, c.err = readWord(s, scan.Run(s, c.end, api.CsBlank), c.reads)
	}
	if c.err == api.OK {
		c.end, c.err = readEnd(s, c.end)
	}
	return c
}

// readOperator reads the longest operator that stands at a place; it tells the place behind it, or what is wrong and where.
func readOperator(s string, at int) (operator, int, api.Errno) {
	var longest operator
	reach := at
	for _, o := range operators() {
		common := commonBytes(s[at:], o.sign)
		if common == len(o.sign) && common > len(longest.sign) {
			longest = o
		}
		reach = max(reach, at+common)
	}
	if longest.sign == "" {
		return operator{}, reach, faults.Misfit(s, reach)
	}
	return longest, at + len(longest.sign), api.OK
}

// commonBytes is with how many bytes both texts begin.
func commonBytes(a, b string) int {
	n := 0
	for n < min(len(a), len(b)) && a[n] == b[n] {
		n++
	}
	return n
}

// readWord reads the word that must stand at a place, in its operator's way; it tells the place behind it, or what is wrong and where.
func readWord(s string, start int, reads reader) (version, int, api.Errno) {
	end := start
	for end < len(s) && s[end] != ',' && !scan.Is(s[end], api.CsBlank) {
		end++
	}
	if end == start {
		return version{}, start, faults.Misfit(s, start)
	}
	v, f := reads(s[start:end])
	if f.Err != api.OK {
		return version{}, start + f.At, f.Err
	}
	return v, end, api.OK
}

// readEnd is the place where a clause is at its end; it tells what is wrong, if it goes on there.
func readEnd(s string, at int) (int, api.Errno) {
	end := scan.Run(s, at, api.CsBlank)
	if end < len(s) && s[end] != ',' {
		return end, api.ErrForm
	}
	return end, api.OK
}

// reader reads a word, or tells what is wrong with it, from the word's beginning on.
type reader func(word string) (version, api.Fault)

func readVersion(word string) (version, api.Fault) {
	v, f := pep.Parse(word)
	if f.Err != api.OK {
		return version{}, f
	}
	return version{Pep: v, text: word}, api.Fault{}
}

// readOnly reads a version of those that may stand there.
func readOnly(word string, may func(api.Pep) bool) (version, api.Fault) {
	v, f := readVersion(word)
	if f.Err == api.OK && !may(v.Pep) {
		return version{}, api.Fault{Err: api.ErrVersion}
	}
	return v, f
}

func readPublic(word string) (version, api.Fault) { return readOnly(word, isPublic) }

// readCompatible asks for a number more than the one by which what is compatible may differ.
func readCompatible(word string) (version, api.Fault) {
	return readOnly(word, func(v api.Pep) bool { return isPublic(v) && len(v.Release) > 1 })
}

// readStarred reads a version, or the beginning of one.
func readStarred(word string) (version, api.Fault) {
	beginning, found := strings.CutSuffix(word, anyRest)
	if !found {
		return readVersion(word)
	}
	v, f := readOnly(beginning, isBase)
	v.star = true
	return v, f
}

// readText reads a word that need be no version.
func readText(word string) (version, api.Fault) {
	for i := range len(word) {
		if word[i] < '!' || word[i] > '~' {
			return version{}, api.Fault{Err: api.ErrForm, At: i}
		}
	}
	return version{text: word}, api.Fault{}
}
