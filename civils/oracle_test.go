package civils

import (
	"fmt"
	"math"

	"circa/api"
)

// The first and the last day of the calendar.
const (
	firstDay = -3652425000000000000
	lastDay  = 3652425000000000365
)

// turnDays is how many days each 400 years have. They are whole weeks, so a
// walk may begin with the same weekday at each of their beginnings.
const turnDays = 146097

const saturday = 5

func isLeap(y int64) bool { return y%4 == 0 && y%100 != 0 || y%400 == 0 }

// length tells how long a month is as one counts it on one's knuckles.
func length(y int64, m int) int {
	switch m {
	case 4, 6, 9, 11:
		return 30
	case 2:
		if isLeap(y) {
			return 29
		}
		return 28
	}
	return 31
}

// walked is a day that a walk comes to.
type walked struct {
	civil            api.Civil
	day              int64
	weekday, ordinal int
	text             string
}

// write writes a text in another way than the package does.
func write(c api.Civil) string {
	width := 4
	if c.Year < 0 {
		width++
	}
	return fmt.Sprintf("%0*d-%02d-%02d", width, c.Year, c.Month, c.Day)
}

// walk goes day by day through as many years from a year on, of which the day
// is the first one and a Saturday.
func walk(y, day, years int64, see func(w walked)) {
	weekday := saturday
	for ; years > 0; years-- {
		ordinal := 1
		for m := 1; m <= 12; m++ {
			for d := 1; d <= length(y, m); d++ {
				c := api.Civil{Year: y, Month: m, Day: d}
				see(walked{c, day, weekday, ordinal, write(c)})
				day++
				ordinal++
				weekday = (weekday + 1) % 7
			}
		}
		y++
	}
}

// walkAll walks at several places: beside the year 0, where years get more or
// fewer digits, and far away up to both ends of the calendar.
func walkAll(see func(w walked)) {
	const most = api.MaxYear / 400
	walk(-800, -2*turnDays, 1600, see)
	for _, turn := range []int64{-3, 2, 25, -25, 249, -250, most / 3, -most / 3, most - 1, -most} {
		walk(400*turn, turn*turnDays, 400, see)
	}
	walk(api.MaxYear, most*turnDays, 1, see)
}

// noYears are numbers that are no years.
func noYears() []int64 {
	return []int64{
		api.MaxYear + 1, -api.MaxYear - 1, api.MaxYear + 400, -api.MaxYear - 400, 365 * api.MaxYear, -365 * api.MaxYear,
		math.MaxInt64 / 366, math.MinInt64 / 366, math.MaxInt64 / 12, math.MinInt64 / 12,
		math.MaxInt64, math.MaxInt64 - 1, math.MinInt64, math.MinInt64 + 1, 1 << 62, -1 << 62,
	}
}

// noMonths are numbers that are no months.
func noMonths() []int {
	return []int{
		0, -1, 13, 14, 21, 24, 99, -12, 12 + 256, 1 + 1<<16, 1 + 1<<32, -1 << 32,
		math.MaxInt, math.MaxInt - 1, math.MinInt, math.MinInt + 1,
	}
}

// farDays are numbers that are days of no month.
func farDays() []int {
	return []int{
		0, -1, -28, 32, 33, 99, 1 + 256, 28 + 1<<16, 1 + 1<<32, -1 << 32,
		math.MaxInt, math.MaxInt - 1, math.MinInt, math.MinInt + 1,
	}
}

// faults are no civil days, and the error of each: that of the year comes ahead
// of that of the month, and that ahead of that of the day.
func faults() map[api.Civil]api.Errno {
	l := map[api.Civil]api.Errno{}
	for _, y := range noYears() {
		for _, m := range append(noMonths(), 1, 2, 7, 12) {
			for _, d := range append(farDays(), 1, 28, 31) {
				l[api.Civil{Year: y, Month: m, Day: d}] = api.ErrYear
			}
		}
	}
	for _, y := range []int64{0, 1, -1, 1900, 2000, 2001, 2004, -4, -100, api.MaxYear, -api.MaxYear} {
		for _, m := range noMonths() {
			for _, d := range append(farDays(), 1, 28, 31) {
				l[api.Civil{Year: y, Month: m, Day: d}] = api.ErrMonth
			}
		}
		for m := 1; m <= 12; m++ {
			for _, d := range append(farDays(), length(y, m)+1) {
				l[api.Civil{Year: y, Month: m, Day: d}] = api.ErrDay
			}
		}
	}
	return l
}

// allDigits reports whether there are only digits.
func allDigits(s string) bool {
	for _, b := range []byte(s) {
		if b < '0' || b > '9' {
			return false
		}
	}
	return true
}
