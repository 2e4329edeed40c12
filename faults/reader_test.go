package faults_test

import (
	"testing"

	"dovetail/api"
	"dovetail/faults"
)

// fails checks the fault with which a reader that stands at a place gives a text up.
func fails(t *testing.T, s string, at int, want api.Fault, read func(r *faults.Reader)) {
	t.Helper()
	r := &faults.Reader{Text: s, At: at}
	_, f := faults.Caught(func() int {
		read(r)
		return 0
	})
	if f != want {
		t.Errorf("%q from %d on: %v, not %v", s, at, f, want)
	}
}

func TestLooking(t *testing.T) {
	r := &faults.Reader{Text: "ab\x00", At: 1}
	if r.Ended() || r.Rest() != "b\x00" || r.Peek() != 'b' || !r.NextIs("xb") || r.NextIs("a") || r.NextIs("") || !r.Begins("") || !r.Begins("b") || !r.Begins("b\x00") || r.Begins("a") || r.Begins("b\x00c") {
		t.Error("ahead of a b")
	}
	r.At = 2
	if r.Ended() || r.Rest() != "\x00" || r.Peek() != 0 || !r.NextIs("x\x00") || r.NextIs("x") {
		t.Error("ahead of a byte 0")
	}
	r.At = 3
	if !r.Ended() || r.Rest() != "" || r.Peek() != 0 || r.NextIs("\x00") || !r.Begins("") || r.Begins("\x00") {
		t.Error("at the text's end")
	}
	if r.At != 3 || r.Text != "ab\x00" {
		t.Errorf("the reader is now %+v", r)
	}
}

func TestPassing(t *testing.T) {
	r := &faults.Reader{Text: "a \t b, x and ]]]> end"}
	if r.Skip(" ") || r.SkipAll(" \t") || r.At != 0 || !r.Skip("xa") || r.At != 1 {
		t.Errorf("Skip: at %d", r.At)
	}
	if !r.SkipAll(" \t") || r.At != 4 || r.SkipAll(" \t") || r.At != 4 {
		t.Errorf("SkipAll: at %d", r.At)
	}
	if c := r.Take("ab"); c != 'b' || r.At != 5 {
		t.Errorf("Take = %q, at %d", c, r.At)
	}
	if c := r.Any(); c != ',' || r.At != 6 {
		t.Errorf("Any = %q, at %d", c, r.At)
	}
	r.Word("")
	r.Word(" x")
	if r.At != 8 {
		t.Errorf("Word: at %d", r.At)
	}
	if s := r.Through("]]>"); s != " and ]" || r.Rest() != " end" {
		t.Errorf("Through = %q, at %d", s, r.At)
	}
	if s := r.Through(" "); s != "" || r.Rest() != "end" {
		t.Errorf("Through = %q, at %d", s, r.At)
	}
	if !r.SkipAll("den") || !r.Ended() || r.Skip("d\x00") || r.SkipAll("d\x00") || r.At != len(r.Text) {
		t.Errorf("at %d", r.At)
	}
}

func TestFailing(t *testing.T) {
	form, short := api.ErrForm, api.ErrShort
	fails(t, "abc", 1, api.Fault{Err: api.ErrWord, At: 7}, func(r *faults.Reader) { r.Fail(api.ErrWord, 7) })
	fails(t, "abc", 1, api.Fault{Err: form, At: 1}, func(r *faults.Reader) { r.Misfit() })
	fails(t, "abc", 3, api.Fault{Err: short, At: 3}, func(r *faults.Reader) { r.Misfit() })
	fails(t, "abc", 1, api.Fault{}, func(r *faults.Reader) { r.Take("b") })
	fails(t, "abc", 1, api.Fault{Err: form, At: 1}, func(r *faults.Reader) { r.Take("ac") })
	fails(t, "abc", 3, api.Fault{Err: short, At: 3}, func(r *faults.Reader) { r.Take("abc\x00") })
	fails(t, "abc", 2, api.Fault{}, func(r *faults.Reader) { r.Any() })
	fails(t, "abc", 3, api.Fault{Err: short, At: 3}, func(r *faults.Reader) { r.Any() })
	fails(t, "abc", 0, api.Fault{}, func(r *faults.Reader) { r.Word("abc") })
	fails(t, "abx", 0, api.Fault{Err: form, At: 2}, func(r *faults.Reader) { r.Word("abc") })
	fails(t, "xab", 1, api.Fault{Err: short, At: 3}, func(r *faults.Reader) { r.Word("abc") })
	fails(t, "a]]", 0, api.Fault{Err: short, At: 3}, func(r *faults.Reader) { r.Through("]]>") })
	fails(t, "]]>a", 1, api.Fault{Err: short, At: 4}, func(r *faults.Reader) { r.Through("]]>") })
}
