package pep

import (
	"iter"
	"strings"

	"dovetail/api"
	"dovetail/faults"
	"dovetail/scan"
)

// marks is the bytes that may stand ahead of a word, of its number, and between parts of the local one.
const marks = "-_."

// reader goes over a text in small letters, part by part. Where a part is not there, it stays at its place.
type reader struct {
	text string
	at   int
}

func (r *reader) version() (api.Pep, api.Errno) {
	var v api.Pep
	r.skip("v")
	v.Epoch = r.epoch()
	v.Release = r.row(api.CsDigit, ".")
	if len(v.Release) == 0 {
		return v, r.misfit()
	}
	v.Pre, v.PreNum = r.pre()
	v.Post, v.PostNum = r.post()
	v.Dev, v.DevNum = r.dev()
	if r.skip("+") {
		v.Local = r.row(api.CsAlnum, marks)
		if len(v.Local) == 0 {
			return v, r.misfit()
		}
	}
	if r.at < len(r.text) {
		return v, api.ErrForm
	}
	return v, api.OK
}

// misfit is the error where a part must stand and does not.
func (r *reader) misfit() api.Errno { return faults.Misfit(r.text, r.at) }

func (r *reader) rest() string { return r.text[r.at:] }

func (r *reader) skip(sign string) bool {
	found := strings.HasPrefix(r.rest(), sign)
	if found {
		r.at += len(sign)
	}
	return found
}

func (r *reader) epoch() string {
	digits, _, found := strings.Cut(r.rest(), "!")
	if !found || !isDigits(digits) {
		return "0"
	}
	r.at += len(digits) + len("!")
	return scan.Trim(digits)
}

// row reads runs of a class with single separators between; none, where no run stands.
func (r *reader) row(class int, separators string) []string {
	var parts []string
	for part, end := range runs(r.text, r.at, class, separators) {
		parts, r.at = append(parts, plain(part)), end
	}
	return parts
}

// runs hands out runs of a class, each with the place behind it. A separator behind which no run stands is left out.
func runs(s string, at, class int, separators string) iter.Seq2[string, int] {
	return func(yield func(string, int) bool) {
		for start := at; ; {
			end := scan.Run(s, start, class)
			if end == start || !yield(s[start:end], end) {
				return
			}
			if end == len(s) || strings.IndexByte(separators, s[end]) < 0 {
				return
			}
			start = end + 1
		}
	}
}

func (r *reader) pre() (byte, string) {
	word, number := r.stage("alpha", "a", "beta", "b", "preview", "pre", "c", "rc")
	switch word {
	case "":
		return 0, ""
	case "alpha", "a":
		return 'a', number
	case "beta", "b":
		return 'b', number
	}
	return 'r', number
}

func (r *reader) post() (bool, string) {
	if strings.HasPrefix(r.rest(), "-") {
		if digits := r.digits(); digits != "" {
			return true, scan.Trim(digits)
		}
	}
	word, number := r.stage("post", "rev", "r")
	return word != "", number
}

func (r *reader) dev() (bool, string) {
	word, number := r.stage("dev")
	return word != "", number
}

// stage reads a word, perhaps behind a mark, and its number; both are empty, where none of the words stands. Of words that begin alike the longer one must be told ahead: a part is as long as it can be.
func (r *reader) stage(words ...string) (string, string) {
	start := r.behindMark()
	for word, stands := range tries(r.text[start:], words) {
		if stands {
			r.at = start + len(word)
			return word, scan.Trim(r.digits())
		}
	}
	return "", ""
}

// tries hands out words one behind the other, and whether the text goes on with each.
func tries(rest string, words []string) iter.Seq2[string, bool] {
	return func(yield func(string, bool) bool) {
		for _, word := range words {
			if !yield(word, strings.HasPrefix(rest, word)) {
				return
			}
		}
	}
}

// digits reads digits, perhaps behind a mark; the mark stays, where there are none.
func (r *reader) digits() string {
	start := r.behindMark()
	end := scan.Run(r.text, start, api.CsDigit)
	if end > start {
		r.at = end
	}
	return r.text[start:end]
}

func (r *reader) behindMark() int {
	if r.at < len(r.text) && strings.IndexByte(marks, r.text[r.at]) >= 0 {
		return r.at + 1
	}
	return r.at
}
