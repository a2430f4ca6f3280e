// Package fault leaves what is being done at the first error, and tells which one it was.
package fault

import "thatch/api"

// Unless panics with an error, which Of and Answer recover, unless it is so.
func Unless(so bool, e api.Errno) {
	if !so {
		panic(e)
	}
}

// Raise panics with an error, which Of and Answer recover, unless it is OK.
func Raise(e api.Errno) { Unless(e == api.OK, e) }

// Must returns a value that came without an error, or panics with the error.
func Must[T any](value T, e api.Errno) T {
	Raise(e)
	return value
}

// Of returns the error with which something that is done panics, or OK.
func Of(do func()) (e api.Errno) {
	defer func() {
		if wrong, ok := recover().(api.Errno); ok {
			e = wrong
		}
	}()
	do()
	return api.OK
}

// Answer returns what is answered, or the error with which the answer panics.
func Answer[T any](answer func() T) (result T, e api.Errno) {
	e = Of(func() { result = answer() })
	return result, e
}
