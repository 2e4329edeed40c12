package npmspec

import (
	"iter"
	"strings"

	"dovetail/api"
	"dovetail/faults"
	"dovetail/scan"
	"dovetail/semver"
)

// partial is a version of which only the first numbers may be told. The beginning has 0 for the others.
type partial struct {
	beginning api.Sem
	told      int
}

// part is a partial and what is asked of it, or what is wrong.
type part struct {
	partial
	means meaning
	err   api.Errno
}

// parts hands out the parts of the set that stands from a place on, each with the place behind it. The last one may be wrong: then it comes with the place of its first wrong byte.
func parts(s string, at int) iter.Seq2[part, int] {
	start := scan.Run(s, at, api.CsBlank)
	if p, end, ok := readFrom(s, start); ok {
		return fromTo(s, p, end)
	}
	return row(s, start)
}

// row hands out parts with blanks between.
func row(s string, start int) iter.Seq2[part, int] {
	return func(yield func(part, int) bool) {
		for count, at := 0, start; !setEnds(s, at); count++ {
			if count == api.MaxTerms {
				yield(part{err: api.ErrLong}, at)
				return
			}
			p, end := readPart(s, at)
			if !yield(p, end) {
				return
			}
			at = scan.Run(s, end, api.CsBlank)
		}
	}
}

// fromTo hands out a from-to, whose first partial is read, as the two parts that it means.
func fromTo(s string, p partial, end int) iter.Seq2[part, int] {
	return func(yield func(part, int) bool) {
		if !yield(part{partial: p, means: from}, end) {
			return
		}
		q, end, err := readTo(s, scan.Run(s, end, api.CsBlank)+len("-"))
		if !yield(part{partial: q, means: upTo, err: err}, end) {
			return
		}
		if at := scan.Run(s, end, api.CsBlank); !setEnds(s, at) {
			yield(part{err: api.ErrForm}, at)
		}
	}
}

// readFrom reads the partial with which a from-to begins, and tells whether it is one: a "-" must stand behind it, and never does so without a blank between.
func readFrom(s string, at int) (partial, int, bool) {
	p, end, err := readPartial(s, at)
	dash := scan.Run(s, end, api.CsBlank)
	return p, end, err == api.OK && dash < len(s) && s[dash] == '-'
}

// readTo reads what stands behind the "-" of a from-to.
func readTo(s string, at int) (partial, int, api.Errno) {
	start := scan.Run(s, at, api.CsBlank)
	if start == at {
		return partial{}, at, faults.Misfit(s, at)
	}
	return readPartial(s, start)
}

// readPart reads an operator, perhaps, and a partial.
func readPart(s string, at int) (part, int) {
	o := operatorAt(s, at)
	p, end, err := readPartial(s, scan.Run(s, at+len(o.sign), api.CsBlank))
	return part{partial: p, means: o.means, err: err}, end
}

// readPartial reads a partial up to where it must end; it tells the place behind it, or what is wrong and where.
func readPartial(s string, start int) (partial, int, api.Errno) {
	p, at, err := readNumbers(s, start+len(prefix(s, start, "v")))
	if err == api.OK && p.told == 3 {
		p.beginning.Pre, at, err = readPre(s, at)
	}
	switch {
	case at-start > api.MaxPart:
		return partial{}, start + api.MaxPart, api.ErrLong
	case err == api.OK && !setEnds(s, at) && !scan.Is(s[at], api.CsBlank):
		return partial{}, at, api.ErrForm
	}
	return p, at, err
}

// readNumbers reads the one to three parts of a partial.
func readNumbers(s string, at int) (partial, int, api.Errno) {
	p := partial{beginning: api.Sem{Major: "0", Minor: "0", Patch: "0"}}
	for i, number := range []*string{&p.beginning.Major, &p.beginning.Minor, &p.beginning.Patch} {
		if i > 0 {
			if prefix(s, at, ".") == "" {
				break
			}
			at++
		}
		end, open, err := readNumber(s, at)
		if err != api.OK {
			return partial{}, end, err
		}
		// A number behind an open one counts as open.
		if !open && p.told == i {
			*number, p.told = s[at:end], i+1
		}
		at = end
	}
	return p, at, api.OK
}

// readNumber reads a number, or what is written for one that is open.
func readNumber(s string, at int) (end int, open bool, err api.Errno) {
	if at < len(s) && (s[at] == 'x' || s[at] == 'X' || s[at] == '*') {
		return at + 1, true, api.OK
	}
	end = scan.Run(s, at, api.CsDigit)
	switch {
	case end == at:
		return at, false, faults.Misfit(s, at)
	case s[at] == '0' && end > at+1:
		return at + 1, false, api.ErrZero
	}
	return end, false, api.OK
}

// readPre reads Pre and Build, where they stand behind three numbers.
func readPre(s string, at int) ([]string, int, api.Errno) {
	if prefix(s, at, "-") == "" && prefix(s, at, "+") == "" {
		return nil, at, api.OK
	}
	// A partial is too long by what is cut off here, and a version would be too.
	end := min(preEnd(s, at), at+api.MaxPart)
	const numbers = "0.0.0"
	v, f := semver.Parse(numbers + s[at:end])
	switch {
	case f.Err == api.OK:
		return v.Pre, end, api.OK
	case f.Err != api.ErrShort:
		return nil, at + f.At - len(numbers), f.Err
	case end < len(s) && scan.Is(s[end-1], api.CsDigit):
		// Digits are too short only by the zero ahead of them: a letter would have to stand here.
		return nil, end, api.ErrZero
	}
	return nil, end, faults.Misfit(s, end)
}

// preEnd is the place of the first byte that can stand neither in Pre nor in Build.
func preEnd(s string, at int) int {
	for at < len(s) && (scan.Is(s[at], api.CsAlnum) || strings.IndexByte("-+.", s[at]) >= 0) {
		at++
	}
	return at
}

// readBars reads the bars behind a set, of which there are so many by now; it tells the place behind them, or what is wrong and where.
func readBars(s string, at, sets int) (int, api.Errno) {
	second := at + 1
	switch {
	case prefix(s, second, "|") == "":
		return second, faults.Misfit(s, second)
	case sets == api.MaxTerms:
		return second, api.ErrLong
	}
	return second + 1, api.OK
}

// setEnds tells whether nothing more can stand in a set at a place.
func setEnds(s string, at int) bool { return at == len(s) || s[at] == '|' }

// prefix is a word, where it stands at a place, else nothing.
func prefix(s string, at int, word string) string {
	found, _ := scan.Word(s, at, []string{word})
	return found
}
