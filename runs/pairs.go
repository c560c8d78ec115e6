package runs

import "circa/api"

// pair is two values, one for each end of a run.
type pair[T any] struct{ lo, hi T }

// each returns what a function makes of both values of a pair. If it refuses
// both, ErrForm counts first: what has not the form of a number is not too
// great a number.
func each[T, U any](p pair[T], f func(T) (U, api.Errno)) (pair[U], api.Errno) {
	lo, err := f(p.lo)
	hi, other := f(p.hi)
	if err == api.OK || other == api.ErrForm {
		err = other
	}
	if err != api.OK {
		return pair[U]{}, err
	}
	return pair[U]{lo, hi}, api.OK
}

// endsOf returns the two ends of a run.
func endsOf(r api.Run) pair[api.End] { return pair[api.End]{r.Lo, r.Hi} }

// runOf returns the run with two ends.
func runOf(p pair[api.End]) api.Run { return api.Run{Lo: p.lo, Hi: p.hi} }
