package mvnspec

import (
	"iter"
	"strings"

	"dovetail/api"
	"dovetail/faults"
	"dovetail/scan"
)

// readSoft reads a text that is one version.
func readSoft(s string) (string, api.Fault) {
	version, at, err := readVersion(s, 0)
	switch {
	case err != api.OK:
		return "", api.Fault{Err: err, At: at}
	case version == "" || at < len(s):
		return "", api.Fault{Err: faults.Misfit(s, at), At: at}
	}
	return version, api.Fault{}
}

// readRanges reads the ranges of which the first one begins at a place.
func readRanges(s string, start int) ([]api.Mrange, api.Fault) {
	var l []api.Mrange
	at, err := start, api.OK
reading:
	for r := range ranges(s, start) {
		at, err = r.at, r.err
		switch {
		case err != api.OK:
			break reading
		case len(l) > 0 && !parted(l[len(l)-1], r.Mrange):
			err = api.ErrSpec
			break reading
		}
		l = append(l, r.Mrange)
	}
	if err != api.OK {
		return nil, api.Fault{Err: err, At: at}
	}
	return l, api.Fault{}
}

// placed is a range and where it begins, or what is wrong and where.
type placed struct {
	api.Mrange
	at  int
	err api.Errno
}

// ranges hands out the ranges of a text, of which the first one begins at a place. The last one may be wrong.
func ranges(s string, start int) iter.Seq[placed] {
	return func(yield func(placed) bool) {
		for count, at := 0, start; ; count++ {
			if count == api.MaxTerms {
				yield(placed{at: at, err: api.ErrLong})
				return
			}
			r, end, err := readRange(s, at)
			if err != api.OK {
				yield(placed{at: end, err: err})
				return
			}
			if !yield(placed{Mrange: r, at: at}) {
				return
			}
			at = scan.Run(s, end, api.CsBlank)
			if at == len(s) {
				return
			}
			at, err = readComma(s, at)
			if err != api.OK {
				yield(placed{at: at, err: err})
				return
			}
		}
	}
}

// readComma reads what stands between two ranges; it tells where the second one begins, or what is wrong and where.
func readComma(s string, at int) (int, api.Errno) {
	if !isAt(s, at, ",") {
		return at, api.ErrForm
	}
	next := scan.Run(s, at+1, api.CsBlank)
	if !isAt(s, next, "[(") {
		return next, faults.Misfit(s, next)
	}
	return next, api.OK
}

// readRange reads the range that begins at a place; it tells the place behind it, or what is wrong and where.
func readRange(s string, start int) (api.Mrange, int, api.Errno) {
	lo, at, err := readVersion(s, start+1)
	// One version alone is both ends, which are alike: so it rises only between [ and ].
	hi, comma := lo, isAt(s, at, ",")
	if err == api.OK && comma {
		hi, at, err = readVersion(s, at+1)
	}
	switch {
	case err != api.OK:
		return api.Mrange{}, at, err
	case !isAt(s, at, "])"):
		return api.Mrange{}, at, faults.Misfit(s, at)
	}
	r := api.Mrange{
		HasLo: lo != "", Lo: lo, LoIn: s[start] == '[',
		HasHi: hi != "", Hi: hi, HiIn: s[at] == ']',
	}
	if !comma && !r.HasLo || !rises(r) {
		return api.Mrange{}, start, api.ErrSpec
	}
	return r, at + 1, api.OK
}

// readVersion reads a version, or nothing, with the blanks around it; it tells the place behind these, or what is wrong and where.
func readVersion(s string, at int) (string, int, api.Errno) {
	start := scan.Run(s, at, api.CsBlank)
	version := s[start:versionEnd(s, start)]
	if version != "" && !isVersion(version) {
		return "", start, api.ErrVersion
	}
	return version, scan.Run(s, start+len(version), api.CsBlank), api.OK
}

// versionEnd is the place of the first byte that ends a version.
func versionEnd(s string, at int) int {
	for at < len(s) && !scan.Is(s[at], api.CsBlank) && !isAt(s, at, ",[]()") {
		at++
	}
	return at
}

// isAt tells whether one of some bytes stands at a place.
func isAt(s string, at int, bytes string) bool {
	return at < len(s) && strings.IndexByte(bytes, s[at]) >= 0
}
