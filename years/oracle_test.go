package years

import (
	"math"

	"circa/api"
)

// The days of the calendar, as the chapter's examples name its last ones.
const (
	firstDay = -3652425000000000000
	lastDay  = 3652425000000000365
)

// divides asks for a leap year as the document defines it.
func divides(d, y int64) bool { return y%d == 0 }

func isLeap(y int64) bool { return divides(4, y) && !divides(100, y) || divides(400, y) }

func length(y int64) int64 {
	if isLeap(y) {
		return 366
	}
	return 365
}

// walk goes from the year 0 to both sides, year by year, and returns the first
// days of all years from -n to n.
func walk(n int64) map[int64]int64 {
	starts := map[int64]int64{0: 0}
	for y := range n {
		starts[y+1] = starts[y] + length(y)
		starts[-y-1] = starts[-y] - length(-y-1)
	}
	return starts
}

// outside are numbers that are no years.
func outside() []int64 {
	return []int64{
		api.MaxYear + 1, -api.MaxYear - 1, api.MaxYear + 2, -api.MaxYear - 2, api.MaxYear + 400, -api.MaxYear - 400,
		2 * api.MaxYear, -2 * api.MaxYear, math.MaxInt64 / 365, math.MinInt64 / 365, math.MaxInt64/365 + 1, math.MinInt64/365 - 1,
		math.MaxInt64, math.MaxInt64 - 1, math.MinInt64, math.MinInt64 + 1, 1 << 62, -1 << 62,
	}
}

// turns are numbers of times that 400 years may pass, such that the years of
// the turn are years of the calendar: all beside the middle and both ends, and
// scattered ones.
func turns() []int64 {
	const most = api.MaxYear / 400
	l := []int64{}
	for k := range int64(4) {
		l = append(l, k, -1-k, most-1-k, -most+k)
	}
	for k := int64(1); k < most/7; k *= 7 {
		l = append(l, k, -k, most-k, k-most, 3*k+1, -3*k-1)
	}
	return l
}
