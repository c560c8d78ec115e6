package years

// The calendar repeats itself: each turn of as many years, whichever one it
// begins with, has as many days.
const (
	turnYears = 400
	turnDays  = 146097
)

// commonDays is how many days a year has that is no leap year.
const commonDays = 365

// rules tell which years are leap years: those that the number of a row divides
// are added to them, or taken away if the sign is -1.
var rules = [...]struct{ divisor, sign int64 }{
	{4, 1},
	{100, -1},
	{400, 1},
}

// leapsTo returns how many leap years there are after the year 0 and up to a
// year. It is negative for a year below 0: as many are above it, up to the year
// 0. So the difference of two of them counts the leap years in between,
// wherever they are.
func leapsTo(y int64) int64 {
	n := int64(0)
	for _, r := range rules {
		quotient, _ := divide(y, r.divisor)
		n += r.sign * quotient
	}
	return n
}

// start returns the first day of a year, which may be the one behind the
// calendar. It is the day 0 for the year 0, so the leap years from there on
// have added a day each.
func start(y int64) int64 {
	return commonDays*y + leapsTo(y-1) - leapsTo(-1)
}
