package runs

import (
	"math"
	"math/big"
	"strings"

	"circa/api"
)

// The ends that are beyond all days.
var (
	low  = api.End{Inf: -1}
	high = api.End{Inf: 1}
)

// day is an end that is a day.
func day(n int64) api.End { return api.End{Day: n} }

// days is the run from a day to another one.
func days(lo, hi int64) api.Run { return api.Run{Lo: day(lo), Hi: day(hi)} }

// A place is an end, or all days between two ends of the line that are not
// beside each other: then it is a gap.
type place struct {
	end api.End
	gap bool
}

// line is ends in order, with a gap wherever they are not beside each other:
// those at which signs and the range change, and a few far from them.
func line() []place {
	l := []place{{end: low}}
	blocks := [][]int64{
		{math.MinInt64, math.MinInt64 + 1, math.MinInt64 + 2},
		{-1 << 40},
		{-2, -1, 0, 1, 2, 3},
		{1 << 62, 1<<62 + 1},
		{math.MaxInt64 - 2, math.MaxInt64 - 1, math.MaxInt64},
	}
	for i, block := range blocks {
		if i > 0 {
			l = append(l, place{gap: true})
		}
		for _, n := range block {
			l = append(l, place{end: day(n)})
		}
	}
	return append(l, place{end: high})
}

// A span is a run, with the places of the line that it covers.
type span struct {
	run    api.Run
	covers []bool
}

// spans are all right runs from one place of the line to another one, in the
// order of Compare.
func spans() []span {
	l := []span{}
	places := line()
	for i, from := range places {
		for j, to := range places {
			if from.gap || to.gap || i > j || from.end == high || to.end == low {
				continue
			}
			covers := make([]bool, len(places))
			for k := i; k <= j; k++ {
				covers[k] = true
			}
			l = append(l, span{api.Run{Lo: from.end, Hi: to.end}, covers})
		}
	}
	return l
}

// combine is what covers the places that a function says, by what two others
// cover.
func combine(a, b []bool, f func(x, y bool) bool) []bool {
	l := make([]bool, len(a))
	for i := range a {
		l[i] = f(a[i], b[i])
	}
	return l
}

// runOver is the run that covers some places, if they are some that lie beside
// each other.
func runOver(covers []bool) (api.Run, bool) {
	places := line()
	first, last, many := -1, -1, 0
	for i, is := range covers {
		if is {
			if first < 0 {
				first = i
			}
			last, many = i, many+1
		}
	}
	if many == 0 || last-first+1 != many {
		return api.Run{}, false
	}
	return api.Run{Lo: places[first].end, Hi: places[last].end}, true
}

// flaw is the error of a run, in another way than the package does: ErrForm if
// an end is none of those of a kind, then by what can be a first and a last
// end, then by numbers of any size.
func flaw(r api.Run) api.Errno {
	for _, x := range []api.End{r.Lo, r.Hi} {
		if x != low && x != high && x.Inf != 0 {
			return api.ErrForm
		}
	}
	switch {
	case r.Lo == high || r.Hi == low:
		return api.ErrRange
	case r.Lo == low || r.Hi == high:
		return api.OK
	case big.NewInt(r.Lo.Day).Cmp(big.NewInt(r.Hi.Day)) > 0:
		return api.ErrOrder
	}
	return api.OK
}

// someEnds are ends that are right, and some that are not.
func someEnds() []api.End {
	l := []api.End{}
	for _, inf := range []int8{math.MinInt8, -2, -1, 0, 1, 2, math.MaxInt8} {
		for _, n := range []int64{math.MinInt64, math.MinInt64 + 1, -7, -1, 0, 1, 5, math.MaxInt64 - 1, math.MaxInt64} {
			l = append(l, api.End{Inf: inf, Day: n})
		}
	}
	return l
}

// someRuns are all pairs of these ends, in the order of Compare.
func someRuns() []api.Run {
	l := []api.Run{}
	for _, lo := range someEnds() {
		for _, hi := range someEnds() {
			l = append(l, api.Run{Lo: lo, Hi: hi})
		}
	}
	return l
}

// noRuns are those of them that are not right.
func noRuns() []api.Run {
	l := []api.Run{}
	for _, r := range someRuns() {
		if flaw(r) != api.OK {
			l = append(l, r)
		}
	}
	return l
}

// length says how many days a run has, by numbers of any size.
func length(r api.Run) (int64, api.Errno) {
	if err := flaw(r); err != api.OK {
		return 0, err
	}
	if r.Lo == low || r.Hi == high {
		return 0, api.ErrNone
	}
	n := new(big.Int).Sub(big.NewInt(r.Hi.Day), big.NewInt(r.Lo.Day))
	n.Add(n, big.NewInt(1))
	if !n.IsInt64() {
		return 0, api.ErrOverflow
	}
	return n.Int64(), api.OK
}

// shifted says which run has days that are k greater, by numbers of any size.
func shifted(r api.Run, k int64) (api.Run, api.Errno) {
	if err := flaw(r); err != api.OK {
		return api.Run{}, err
	}
	for _, x := range []*api.End{&r.Lo, &r.Hi} {
		n := new(big.Int).Add(big.NewInt(x.Day), big.NewInt(k))
		switch {
		case *x == low || *x == high:
		case !n.IsInt64():
			return api.Run{}, api.ErrOverflow
		default:
			x.Day = n.Int64()
		}
	}
	return r, api.OK
}

// readEnd says what the text of an end must be read as: as a number of any
// size, which is written again.
func readEnd(s string) (api.End, api.Errno) {
	switch s {
	case "inf":
		return high, api.OK
	case "-inf":
		return low, api.OK
	}
	n, ok := new(big.Int).SetString(s, 10)
	if !ok || n.String() != s {
		return api.End{}, api.ErrForm
	}
	if !n.IsInt64() {
		return api.End{}, api.ErrOverflow
	}
	return day(n.Int64()), api.OK
}

// read says what a text must be read as: it is split wherever two points are,
// and one of the splits must give two texts of ends.
func read(s string) (api.Run, api.Errno) {
	for i := range len(s) {
		rest, split := strings.CutPrefix(s[i:], "..")
		if !split {
			continue
		}
		lo, first := readEnd(s[:i])
		hi, second := readEnd(rest)
		switch r := (api.Run{Lo: lo, Hi: hi}); {
		case first == api.ErrForm || second == api.ErrForm:
		case first != api.OK || second != api.OK:
			return api.Run{}, api.ErrOverflow
		case flaw(r) != api.OK:
			return api.Run{}, flaw(r)
		default:
			return r, api.OK
		}
	}
	return api.Run{}, api.ErrForm
}
