package floats

import (
	"cmp"
	"math"

	"circa/api"
)

// Down returns the greatest float64 that is at most n.
func Down(n int64) float64 {
	down, _ := around(n)
	return down
}

// Up returns the least float64 that is at least n.
func Up(n int64) float64 {
	_, up := around(n)
	return up
}

// Exact reports whether a float64 is n.
func Exact(n int64) bool {
	down, up := around(n)
	return down == up
}

// around returns the greatest float64 that is at most n, and the least one that
// is at least n. Neither is -0: the conversion of 0 is +0, and numbers that are
// not exact are far from 0.
func around(n int64) (down, up float64) {
	near := float64(n)
	// Errors are left alone: near is neither NaN nor infinite.
	side, _ := Cmp(near, n)
	switch side {
	case 1:
		near, _ = Prev(near)
		fallthrough
	case -1:
		above, _ := Next(near)
		return near, above
	}
	return near, near
}

// Floor returns the greatest whole number that is at most x: ErrArg for NaN,
// ErrOverflow if there is none, or it does not fit.
func Floor(x float64) (int64, api.Errno) { return whole(x, math.Floor) }

// Ceil returns the least whole number that is at least x: ErrArg for NaN,
// ErrOverflow if there is none, or it does not fit.
func Ceil(x float64) (int64, api.Errno) { return whole(x, math.Ceil) }

// whole returns the whole number that round makes of x.
func whole(x float64, round func(float64) float64) (int64, api.Errno) {
	// The greatest int64 itself is no float64, but the number behind it is.
	const limit = 1 << 63
	rounded := round(x)
	switch {
	case math.IsNaN(rounded):
		return 0, api.ErrArg
	case rounded < -limit || rounded >= limit:
		return 0, api.ErrOverflow
	}
	return int64(rounded), api.OK
}

// Cmp compares x with n as exact numbers: ErrArg for NaN.
func Cmp(x float64, n int64) (int, api.Errno) {
	floor, err := Floor(x)
	switch {
	case err == api.ErrOverflow:
		return cmp.Compare(x, 0), api.OK
	case err != api.OK:
		return 0, err
	case floor != n:
		return cmp.Compare(floor, n), api.OK
	}
	// The floor of a float64 is a float64, so that this converts exactly.
	return cmp.Compare(x, float64(floor)), api.OK
}
