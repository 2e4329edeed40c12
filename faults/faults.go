// Package faults is what readers share that give their text up at its first fault. It is no layer, and calls none, so that a layer that calls no other can use it.
package faults

import "dovetail/api"

// Misfit is the error where a part of a text can't begin or go on: at the text's end, or at a byte.
func Misfit(s string, at int) api.Errno {
	if at == len(s) {
		return api.ErrShort
	}
	return api.ErrForm
}

// Fail gives a text up.
func Fail(err api.Errno, at int) { panic(api.Fault{Err: err, At: at}) }

// Good is what a call has read, or gives the text up with its fault.
func Good[V any](value V, f api.Fault) V {
	if f.Err != api.OK {
		panic(f)
	}
	return value
}

// Caught is what read tells, or the fault with which it panics to give its text up. Any other panic goes on.
func Caught[V any](read func() V) (value V, f api.Fault) {
	defer func() {
		switch thrown := recover().(type) {
		case nil:
		case api.Fault:
			f = thrown
		default:
			panic(thrown)
		}
	}()
	return read(), api.Fault{}
}
