package runsets

import (
	"cmp"
	"math"
	"slices"

	"circa/api"
	"circa/ends"
	"circa/runs"
)

// The first and the last one of all ends.
var (
	first = api.End{Inf: -1}
	last  = api.End{Inf: 1}
)

// Union returns the run set of the days that a or b has: the error of Check for
// a, that for b, then ErrLimit if it would have too many runs.
func Union(a, b []api.Run) ([]api.Run, api.Errno) {
	return combine(a, b, func(inA, inB bool) bool { return inA || inB })
}

// Common returns the run set of the days that a and b both have: the errors of
// Union.
func Common(a, b []api.Run) ([]api.Run, api.Errno) {
	return combine(a, b, both)
}

// Without returns the run set of the days that a has, but not b: the errors of
// Union.
func Without(a, b []api.Run) ([]api.Run, api.Errno) {
	return combine(a, b, func(inA, inB bool) bool { return inA && !inB })
}

// Complement returns the run set of all days that a set does not have: the
// error of Check, then ErrLimit if it would have too many runs.
func Complement(l []api.Run) ([]api.Run, api.Errno) {
	return Without([]api.Run{{Lo: first, Hi: last}}, l)
}

// Within reports whether each run of a is within a run of b: the error of Check
// for a, then that for b. What they have in common may have any number of runs
// here.
func Within(a, b []api.Run) (bool, api.Errno) {
	if err := checkBoth(a, b); err != api.OK {
		return false, err
	}
	return Same(sweep(a, b, both), a), api.OK
}

// both reports whether both lists have an end.
func both(inA, inB bool) bool { return inA && inB }

// checkBoth returns the error of Check for a, then that for b.
func checkBoth(a, b []api.Run) api.Errno { return cmp.Or(Check(a), Check(b)) }

// combine returns the run set of the ends that are to be kept: the error of
// Check for a, that for b, then ErrLimit if it would have too many runs.
func combine(a, b []api.Run, keep func(inA, inB bool) bool) ([]api.Run, api.Errno) {
	if err := checkBoth(a, b); err != api.OK {
		return nil, err
	}
	l := sweep(a, b, keep)
	if len(l) > api.MaxRuns {
		return nil, api.ErrLimit
	}
	return cut(l), api.OK
}

// sweep returns the maximal runs of the ends that are to be kept, by whether
// the run sets a and b have them. It goes from the first end to the last one in
// stretches, of which each set has all ends or none.
func sweep(a, b []api.Run, keep func(inA, inB bool) bool) []api.Run {
	stretch := func(from api.End) (kept bool, to api.End) {
		a, b = rest(a, from), rest(b, from)
		inA, toA := reach(a, from)
		inB, toB := reach(b, from)
		return keep(inA, inB), ends.Min(toA, toB)
	}
	var l []api.Run
	from, before := first, false
	for {
		kept, to := stretch(from)
		if kept && before {
			l[len(l)-1].Hi = to
		} else if kept {
			l = append(l, api.Run{Lo: from, Hi: to})
		}
		if to == last {
			break
		}
		from, before = behind(to), kept
	}
	// An infinite end that was kept without a day beside it is no run.
	return slices.DeleteFunc(l, func(r api.Run) bool { return runs.Check(r) != api.OK })
}

// rest returns the runs of a run set that do not end ahead of an end.
func rest(l []api.Run, from api.End) []api.Run {
	for len(l) > 0 && ends.Compare(l[0].Hi, from) < 0 {
		l = l[1:]
	}
	return l
}

// reach reports whether a run set, of which no run ends ahead of an end, has
// this end, and up to which end that stays so.
func reach(l []api.Run, from api.End) (bool, api.End) {
	switch {
	case len(l) == 0:
		return false, last
	case ends.Compare(from, l[0].Lo) < 0:
		return false, ahead(l[0].Lo)
	}
	return true, l[0].Hi
}

// behind returns the end behind another one that is not the last one:
// infinities stand beside the least and the greatest day.
func behind(x api.End) api.End {
	if x == first {
		return ends.Of(math.MinInt64)
	}
	next, err := ends.Next(x)
	if err != api.OK {
		return last
	}
	return next
}

// ahead returns the end ahead of a day.
func ahead(x api.End) api.End {
	prev, err := ends.Prev(x)
	if err != api.OK {
		return first
	}
	return prev
}
