package months

import (
	"math"

	"circa/api"
)

// The first and the last day of the calendar.
const (
	firstDay = -3652425000000000000
	lastDay  = 3652425000000000365
)

// turnDays is how many days each 400 years have.
const turnDays = 146097

func isLeap(y int64) bool { return y%4 == 0 && y%100 != 0 || y%400 == 0 }

// length tells how long a month is as one counts it on one's knuckles.
func length(y int64, m int) int {
	switch m {
	case 4, 6, 9, 11:
		return 30
	case 2:
		if isLeap(y) {
			return 29
		}
		return 28
	}
	return 31
}

// month is a month, and its days.
type month struct {
	y           int64
	m           int
	first, last int64
}

// walk returns the months of as many years from a year on, one behind another,
// when the day is its first one.
func walk(y, day, years int64) []month {
	l := []month{}
	for ; years > 0; years-- {
		for m := 1; m <= 12; m++ {
			last := day + int64(length(y, m)) - 1
			l = append(l, month{y, m, day, last})
			day = last + 1
		}
		y++
	}
	return l
}

// all returns months at several places, those of one place one behind another:
// beside the year 0, and far away up to both ends of the calendar.
func all() [][]month {
	const most = api.MaxYear / 400
	l := [][]month{walk(-800, -2*turnDays, 1600)}
	for _, turn := range []int64{most / 3, -most / 3, most - 1, -most, 1 << 20, -1 << 30} {
		l = append(l, walk(400*turn, turn*turnDays, 400))
	}
	return append(l, walk(api.MaxYear, most*turnDays, 1))
}

// noYears are numbers that are no years.
func noYears() []int64 {
	return []int64{
		api.MaxYear + 1, -api.MaxYear - 1, api.MaxYear + 400, -api.MaxYear - 400, 12 * api.MaxYear, -12 * api.MaxYear,
		math.MaxInt64 / 12, math.MaxInt64/12 + 1, math.MinInt64 / 12, math.MinInt64/12 - 1,
		math.MaxInt64, math.MaxInt64 - 1, math.MinInt64, math.MinInt64 + 1, 1 << 62, -1 << 62,
	}
}

// noMonths are numbers that are no months.
func noMonths() []int {
	return []int{
		0, -1, 13, 14, 21, 24, -12, 12 + 256, 1 + 1<<16, 1 + 1<<32, -1 << 32,
		math.MaxInt, math.MaxInt - 1, math.MinInt, math.MinInt + 1,
	}
}

// faults are pairs that are no months, and the error of each: that of the year
// comes ahead of that of the month.
func faults() map[pair]api.Errno {
	l := map[pair]api.Errno{}
	for _, y := range noYears() {
		for m := -1; m <= 14; m++ {
			l[pair{y, m}] = api.ErrYear
		}
		for _, m := range noMonths() {
			l[pair{y, m}] = api.ErrYear
		}
	}
	for _, y := range []int64{0, 1, -1, 2000, api.MaxYear, -api.MaxYear} {
		for _, m := range noMonths() {
			l[pair{y, m}] = api.ErrMonth
		}
	}
	return l
}

type pair struct {
	y int64
	m int
}
