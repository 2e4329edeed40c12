package faults_test

import (
	"testing"

	"dovetail/api"
	"dovetail/faults"
)

func TestMisfit(t *testing.T) {
	if faults.Misfit("", 0) != api.ErrShort || faults.Misfit("ab", 2) != api.ErrShort || faults.Misfit("ab", 0) != api.ErrForm || faults.Misfit("ab", 1) != api.ErrForm {
		t.Error("a text's end, or not")
	}
}

func TestGivingUp(t *testing.T) {
	f := api.Fault{Err: api.ErrWord, At: 3}
	for i, read := range []func() string{
		func() string { faults.Fail(api.ErrWord, 3); return "on" },
		func() string { return faults.Good("on", f) },
		func() string { return faults.Good("", f) },
	} {
		if s, got := faults.Caught(read); s != "" || got != f {
			t.Errorf("%d: %q, %v", i, s, got)
		}
	}
	if s := faults.Good("on", api.Fault{}); s != "on" {
		t.Errorf("Good = %q", s)
	}
}

func TestCaught(t *testing.T) {
	read := func(s string) (string, api.Fault) {
		return faults.Caught(func() string {
			if s == "wrong" {
				panic(api.Fault{Err: api.ErrWord, At: 3})
			}
			return s
		})
	}
	for range 2 {
		if s, f := read("right"); s != "right" || f != (api.Fault{}) {
			t.Errorf("Caught = %q, %v", s, f)
		}
		if s, f := read("wrong"); s != "" || f != (api.Fault{Err: api.ErrWord, At: 3}) {
			t.Errorf("Caught = %q, %v", s, f)
		}
	}
	defer func() {
		if other := recover(); other != "other" {
			t.Errorf("%v goes on", other)
		}
	}()
	faults.Caught(func() int { panic("other") })
}
