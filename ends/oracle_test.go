package ends

import (
	"math"
	"math/big"

	"circa/api"
)

// The ends that are beyond all days.
var (
	low  = api.End{Inf: -1}
	high = api.End{Inf: 1}
)

// day is an end that is a day.
func day(n int64) api.End { return api.End{Inf: 0, Day: n} }

// days are numbers at which signs, words, the calendar and the range change,
// and those beside them, in order.
func days() []int64 {
	l := []int64{math.MinInt64, math.MinInt64 + 1, math.MinInt64 + 2}
	for _, n := range []int64{-1 << 62, -3652425000000000000, -api.MaxYear, -1 << 32, -1 << 31, -128, 0, 127, 1 << 31, 1 << 32, api.MaxYear, 3652425000000000365, 1 << 62} {
		for d := n - 2; d <= n+2; d++ {
			l = append(l, d)
		}
	}
	return append(l, math.MaxInt64-2, math.MaxInt64-1, math.MaxInt64)
}

// rightEnds are ends that are right, in order.
func rightEnds() []api.End {
	l := []api.End{low}
	for _, n := range days() {
		l = append(l, day(n))
	}
	return append(l, high)
}

// noEnds are those that are not right: all other numbers than -1, 0 and 1, and
// infinities with a day.
func noEnds() []api.End {
	l := []api.End{}
	for inf := math.MinInt8; inf <= math.MaxInt8; inf++ {
		for _, n := range days() {
			if inf < -1 || inf > 1 || inf != 0 && n != 0 {
				l = append(l, api.End{Inf: int8(inf), Day: n})
			}
		}
	}
	return l
}

// read says what a text must be read as, in another way than the package does:
// as a number of any size, which is written again.
func read(s string) (api.End, api.Errno) {
	switch s {
	case "inf":
		return high, api.OK
	case "-inf":
		return low, api.OK
	}
	n, ok := new(big.Int).SetString(s, 10)
	if !ok || n.String() != s {
		return api.End{}, api.ErrForm
	}
	if !n.IsInt64() {
		return api.End{}, api.ErrOverflow
	}
	return day(n.Int64()), api.OK
}
