package rich

import (
	"slices"

	"dovetail/api"
)

// write is a dependency's text, fit or not: what it is read as tells that.
func write(d api.Rich) string {
	var w writer
	w.add(d)
	return string(w)
}

// writer is a text as far as it is written. It takes nothing more as soon as it is longer than one may be, so that it ends however much is nested.
type writer []byte

func (w writer) full() bool { return len(w) > api.MaxSpec }

func (w *writer) add(d api.Rich) {
	if d.Op == api.RiCap {
		*w = append(*w, writeCapability(d)...)
		return
	}
	*w = append(*w, '(')
	for i, sub := range d.Subs {
		if w.full() {
			return
		}
		if i > 0 {
			*w = append(*w, " "+wordAhead(d.Op, i)+" "...)
		}
		w.add(sub)
	}
	*w = append(*w, ')')
}

func writeCapability(d api.Rich) string {
	if d.Cmp == "" {
		return d.Name
	}
	return d.Name + " " + d.Cmp + " " + d.Evr
}

func same(a, b api.Rich) bool {
	return a.Op == b.Op && a.Name == b.Name && a.Cmp == b.Cmp && a.Evr == b.Evr && slices.EqualFunc(a.Subs, b.Subs, same)
}

// appendCaps lays the capabilities of a fit dependency behind others.
func appendCaps(l []api.Rich, d api.Rich) []api.Rich {
	if d.Op == api.RiCap {
		return append(l, api.Rich{Op: d.Op, Name: d.Name, Cmp: d.Cmp, Evr: d.Evr})
	}
	for _, sub := range d.Subs {
		l = appendCaps(l, sub)
	}
	return l
}
