// Package must lets a call go on with what it must have alone. Where that is missing it panics, and the call's door makes an error of the panic: what lies between them needn't speak of errors.
package must

import "opaline/api"

// refusal is a type of its own, so that a door takes no other panic for one.
type refusal struct{ e api.Errno }

// Hold: what must be so; else all behind the door ends with an error.
func Hold(so bool, e api.Errno) {
	if !so {
		panic(refusal{e})
	}
}

// OK: no error, or the end of all behind the door.
func OK(e api.Errno) { Hold(e == api.OK, e) }

// Have: a value that came without an error.
func Have[T any](value T, e api.Errno) T {
	OK(e)
	return value
}

// Door: what is answered behind it, OK; or nothing, and the error that ended all.
func Door[T any](behind func() T) (answer T, e api.Errno) {
	defer func() {
		switch p := recover().(type) {
		case nil:
		case refusal:
			e = p.e
		default:
			// A fault is no answer: here it would be hidden.
			panic(p)
		}
	}()
	return behind(), api.OK
}

// Done: OK, where all behind it was done; or the error that ended it.
func Done(behind func()) api.Errno {
	_, e := Door(func() struct{} {
		behind()
		return struct{}{}
	})
	return e
}
