package runsets

import (
	"math"
	"math/big"
	"slices"
	"strings"

	"circa/api"
	"circa/ends"
	"circa/runs"
)

// run is the run from a day to another one.
func run(lo, hi int64) api.Run { return api.Run{Lo: ends.Of(lo), Hi: ends.Of(hi)} }

// until is the run of all days up to one, since the run of all days from one on.
func until(n int64) api.Run { return api.Run{Lo: api.End{Inf: -1}, Hi: ends.Of(n)} }
func since(n int64) api.Run { return api.Run{Lo: ends.Of(n), Hi: api.End{Inf: 1}} }

// all is the run of all days.
func all() api.Run { return api.Run{Lo: api.End{Inf: -1}, Hi: api.End{Inf: 1}} }

// wrong are runs that are not right.
func wrong() []api.Run {
	low, high := api.End{Inf: -1}, api.End{Inf: 1}
	return []api.Run{
		{Lo: low, Hi: low}, {Lo: high, Hi: high}, {Lo: high, Hi: low}, {Lo: high, Hi: ends.Of(0)}, {Lo: ends.Of(0), Hi: low},
		run(1, 0), run(math.MaxInt64, math.MinInt64), {Lo: api.End{Inf: -2}, Hi: high}, {Lo: low, Hi: api.End{Inf: 1, Day: 1}}, {Lo: low, Hi: api.End{Inf: 2}},
	}
}

// parts are all ends, divided into stretches that stand beside each other: the
// infinities, the ends of the range, a few days, and what is between these.
func parts() []api.Run {
	low, high := api.End{Inf: -1}, api.End{Inf: 1}
	return []api.Run{
		{Lo: low, Hi: low},
		run(math.MinInt64, math.MinInt64),
		run(math.MinInt64+1, -3),
		run(-2, -2), run(-1, -1), run(0, 0), run(1, 1),
		run(2, math.MaxInt64-1),
		run(math.MaxInt64, math.MaxInt64),
		{Lo: high, Hi: high},
	}
}

// A set is some of these parts, of which it has all ends: bit i is part i.
type set uint

// The sets of the first part, of the last one, and of all.
const (
	lowest  set = 1 << 0
	highest set = 1 << 9
	full    set = 1<<10 - 1
)

// has reports whether a set has a part.
func (x set) has(i int) bool { return x>>i&1 == 1 }

// days is a set without the infinities that have no day beside them.
func (x set) days() set {
	if !x.has(1) {
		x &^= lowest
	}
	if !x.has(8) {
		x &^= highest
	}
	return x
}

// sets are all sets that are those of runs.
func sets() []set {
	l := []set{}
	for x := range full + 1 {
		if x == x.days() {
			l = append(l, x)
		}
	}
	return l
}

// runs are the maximal runs of a set.
func (x set) runs() []api.Run {
	l := []api.Run{}
	for i, part := range parts() {
		switch {
		case !x.has(i):
		case i > 0 && x.has(i-1):
			l[len(l)-1].Hi = part.Hi
		default:
			l = append(l, part)
		}
	}
	return l
}

// count says how many days a set has, by numbers of any size.
func (x set) count() (int64, api.Errno) {
	if x.has(0) || x.has(9) {
		return 0, api.ErrNone
	}
	sum := new(big.Int)
	for i, part := range parts() {
		if x.has(i) {
			sum.Add(sum, big.NewInt(part.Hi.Day))
			sum.Sub(sum, big.NewInt(part.Lo.Day))
			sum.Add(sum, big.NewInt(1))
		}
	}
	if !sum.IsInt64() {
		return 0, api.ErrOverflow
	}
	return sum.Int64(), api.OK
}

// covered are all runs from one part to another one, with the set of each.
func covered() map[api.Run]set {
	m := map[api.Run]set{}
	for _, x := range sets() {
		if l := x.runs(); len(l) == 1 {
			m[l[0]] = x
		}
	}
	return m
}

// flaw is the error of a run set, in another way than the package does: between
// two runs must be a distance of two days at least, and no infinity.
func flaw(l []api.Run) api.Errno {
	if len(l) > api.MaxRuns {
		return api.ErrLimit
	}
	for i, r := range l {
		if err := runs.Check(r); err != api.OK {
			return err
		}
		if i == 0 {
			continue
		}
		before := l[i-1].Hi
		distance := new(big.Int).Sub(big.NewInt(r.Lo.Day), big.NewInt(before.Day))
		if before.Inf != 0 || r.Lo.Inf != 0 || distance.Cmp(big.NewInt(2)) < 0 {
			return api.ErrOrder
		}
	}
	return api.OK
}

// text is the text of a set of right runs.
func text(l []api.Run) string {
	texts := []string{}
	for _, r := range l {
		s, _ := runs.Text(r)
		texts = append(texts, s)
	}
	if len(texts) == 0 {
		return "none"
	}
	return strings.Join(texts, ",")
}

// read says what a text must be read as: the errors of all its parts are there
// before one of them is chosen.
func read(s string) ([]api.Run, api.Errno) {
	if s == "none" {
		return nil, api.OK
	}
	l, errs := []api.Run{}, []api.Errno{}
	for _, part := range strings.Split(s, ",") {
		r, err := runs.Parse(part)
		l = append(l, r)
		if err != api.OK {
			errs = append(errs, err)
		}
	}
	switch {
	case len(s) > api.MaxText:
		return nil, api.ErrLimit
	case slices.Contains(errs, api.ErrForm):
		return nil, api.ErrForm
	case len(errs) > 0:
		return nil, errs[0]
	case flaw(l) != api.OK:
		return nil, flaw(l)
	}
	return l, api.OK
}

// spread are many runs of some days, the first one from a day on, and each
// other one a step behind the one before.
func spread(many int, from, length, step int64) []api.Run {
	l := []api.Run{}
	for i := range int64(many) {
		l = append(l, run(from+i*step, from+i*step+length-1))
	}
	return l
}
