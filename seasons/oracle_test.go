package seasons

import (
	"math"
	"slices"

	"circa/api"
	"circa/months"
)

// The first and the last day of the calendar.
const (
	firstDay = -3652425000000000000
	lastDay  = 3652425000000000365
)

// monthsOf are the months of each code, written out.
func monthsOf() map[int][]int {
	march, june, september, december := []int{3, 4, 5}, []int{6, 7, 8}, []int{9, 10, 11}, []int{12, 1, 2}
	return map[int][]int{
		21: march, 22: june, 23: september, 24: december,
		25: march, 26: june, 27: september, 28: december,
		29: september, 30: december, 31: march, 32: june,
		33: {1, 2, 3}, 34: {4, 5, 6}, 35: {7, 8, 9}, 36: {10, 11, 12},
		37: {1, 2, 3, 4}, 38: {5, 6, 7, 8}, 39: {9, 10, 11, 12},
		40: {1, 2, 3, 4, 5, 6}, 41: {7, 8, 9, 10, 11, 12},
	}
}

// month is a month, and its days.
type month struct {
	y           int64
	m           int
	first, last int64
}

// walk returns the months of as many years from a year on, one behind another.
func walk(y int64, years int) []month {
	l := []month{}
	for i := range 12 * years {
		w := month{y: y + int64(i/12), m: i%12 + 1}
		w.first, _ = months.Start(w.y, w.m)
		w.last, _ = months.End(w.y, w.m)
		l = append(l, w)
	}
	return l
}

// places returns months at several places, those of one place one behind
// another: beside the year 0, and far away up to both ends of the calendar.
func places() [][]month {
	l := [][]month{walk(-400, 800)}
	for _, y := range []int64{api.MaxYear / 3, -api.MaxYear / 3, api.MaxYear - 400, -api.MaxYear, 1800, -1 << 39} {
		l = append(l, walk(y, 400))
	}
	return append(l, walk(api.MaxYear, 1))
}

// someYears returns months of a few years at each of the places, with a leap
// year among them where the calendar has that many.
func someYears() []month {
	l := []month{}
	for _, place := range places() {
		l = append(l, place[:min(12*8, len(place))]...)
		l = append(l, place[max(0, len(place)-12*8):]...)
	}
	return l
}

// yearOf tells in which year the run of a code that has these months has the
// days of a month: one behind December belongs to the run that began the year
// before. A run that leaves the calendar is none.
func yearOf(w month, list []int) (y int64, is bool) {
	if !slices.Contains(list, w.m) {
		return 0, false
	}
	if list[0] < 12 {
		return w.y, true
	}
	if w.m < 12 {
		return w.y - 1, w.y > -api.MaxYear
	}
	return w.y, w.y < api.MaxYear
}

// run is a run of days.
func run(lo, hi int64) api.Run {
	return api.Run{Lo: api.End{Day: lo}, Hi: api.End{Day: hi}}
}

// noCodes are numbers that are no codes.
func noCodes() []int {
	l := []int{
		-1, -21, -41, 42 + 256, 21 + 256, 21 + 1<<16, 21 + 1<<32, 33 - 1<<32, -1 << 32, 1 << 32, 99,
		math.MaxInt, math.MaxInt - 1, math.MinInt, math.MinInt + 1, math.MinInt + 20, math.MinInt + 21, math.MinInt + 41,
	}
	for code := range 21 {
		l = append(l, code, 42+code)
	}
	return l
}

// noYears are numbers that are no years.
func noYears() []int64 {
	return []int64{
		api.MaxYear + 1, -api.MaxYear - 1, api.MaxYear + 400, -api.MaxYear - 400, 12 * api.MaxYear, -12 * api.MaxYear,
		math.MaxInt64 / 12, math.MaxInt64/12 + 1, math.MinInt64 / 12, math.MinInt64/12 - 1,
		math.MaxInt64, math.MaxInt64 - 1, math.MinInt64, math.MinInt64 + 1, 1 << 62, -1 << 62,
	}
}

// noDays are numbers that are no days of the calendar.
func noDays() []int64 {
	return []int64{
		firstDay - 1, lastDay + 1, firstDay - 31, lastDay + 31, firstDay - 60, lastDay + 60, firstDay - 146097, lastDay + 146097,
		math.MaxInt64, math.MaxInt64 - 1, math.MinInt64, math.MinInt64 + 1, 1 << 62, -1 << 62,
	}
}
