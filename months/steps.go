package months

import (
	"circa/api"
	"circa/ints"
)

// Add returns the month k months on: the error of Check, then ErrYear if the
// calendar has none there.
func Add(y int64, m int, k int64) (z int64, n int, e api.Errno) {
	if err := Check(y, m); err != api.OK {
		return 0, 0, err
	}
	// An index that does not fit is far behind all those of the calendar.
	to, err := ints.Add(index(y, m), k)
	if err != api.OK {
		return 0, 0, api.ErrYear
	}
	z, n = ofIndex(to)
	if err := Check(z, n); err != api.OK {
		return 0, 0, err
	}
	return z, n, api.OK
}

// Between returns how many months on the second month is from the first one:
// the error of Check for the first one, then for the second one.
func Between(y int64, m int, z int64, n int) (int64, api.Errno) {
	if err := Check(y, m); err != api.OK {
		return 0, err
	}
	if err := Check(z, n); err != api.OK {
		return 0, err
	}
	return index(z, n) - index(y, m), api.OK
}

// index returns the index of a month of the calendar: those of all months, one
// behind another, are numbers one behind another.
func index(y int64, m int) int64 { return perYear*y + int64(m-1) }

// ofIndex returns the month of an index. Its year may be none of the calendar.
func ofIndex(i int64) (y int64, m int) {
	y, _ = ints.Div(i, perYear)
	rest, _ := ints.Mod(i, perYear)
	return y, int(rest) + 1
}
