// Package ints reckons with int64 numbers exactly: what does not fit is an
// error. It is layer 1: see shared/doc/01-ints.md.
package ints

import (
	"math"
	"math/bits"

	"circa/api"
)

// mostExp is the greatest power of ten that fits.
const mostExp = 18

// Add returns the sum: ErrOverflow if it does not fit.
func Add(a, b int64) (sum int64, err api.Errno) {
	// Only numbers of one sign leave the range, and then their sum wraps
	// around to the other sign.
	defer func() {
		if differ(a, sum) && differ(b, sum) {
			sum, err = 0, api.ErrOverflow
		}
	}()
	return a + b, api.OK
}

// Sub returns the difference: ErrOverflow if it does not fit.
func Sub(a, b int64) (diff int64, err api.Errno) {
	defer func() {
		if differ(a, b) && differ(a, diff) {
			diff, err = 0, api.ErrOverflow
		}
	}()
	return a - b, api.OK
}

// Mul returns the product: ErrOverflow if it does not fit.
func Mul(a, b int64) (int64, api.Errno) {
	return signed(product(a, b), differ(a, b))
}

// Div returns the quotient, rounded down: ErrArg if b is 0, ErrOverflow if the
// quotient does not fit.
func Div(a, b int64) (int64, api.Errno) {
	if b == 0 {
		return 0, api.ErrArg
	}
	if a == math.MinInt64 && b == -1 {
		return 0, api.ErrOverflow
	}
	q := a / b
	// Go rounds towards zero, which is too high for a negative quotient.
	if a%b != 0 && differ(a, b) {
		q--
	}
	return q, api.OK
}

// Mod returns what Div leaves: ErrArg if b is 0.
func Mod(a, b int64) (int64, api.Errno) {
	if b == 0 {
		return 0, api.ErrArg
	}
	r := a % b
	if r != 0 && differ(r, b) {
		r += b
	}
	return r, api.OK
}

// Pow10 returns 10 to the power n: ErrArg if n is negative, ErrOverflow if the
// power does not fit.
func Pow10(n int) (int64, api.Errno) {
	if n < 0 {
		return 0, api.ErrArg
	}
	if n > mostExp {
		return 0, api.ErrOverflow
	}
	p := int64(1)
	for range n {
		p *= 10
	}
	return p, api.OK
}

// Gcd returns the greatest number that divides both, 0 for two zeros:
// ErrOverflow if it does not fit.
func Gcd(a, b int64) (int64, api.Errno) {
	m, n := magnitude(a), magnitude(b)
	for n != 0 {
		m, n = n, m%n
	}
	return signed([2]uint64{0, m}, false)
}

// differ reports whether one number is negative and the other one is not.
func differ(a, b int64) bool { return (a < 0) != (b < 0) }

// magnitude returns a number without its sign. It is unsigned because that of
// the least int64 is no int64.
func magnitude(n int64) uint64 {
	if n < 0 {
		return -uint64(n)
	}
	return uint64(n)
}

// product returns the product of two magnitudes in two words, the high one
// first.
func product(a, b int64) [2]uint64 {
	high, low := bits.Mul64(magnitude(a), magnitude(b))
	return [2]uint64{high, low}
}

// signed returns the number with a magnitude of two words, and a sign:
// ErrOverflow if it does not fit.
func signed(words [2]uint64, negative bool) (int64, api.Errno) {
	high, low := words[0], words[1]
	limit := magnitude(math.MaxInt64)
	if negative {
		limit = magnitude(math.MinInt64)
	}
	if high != 0 || low > limit {
		return 0, api.ErrOverflow
	}
	if negative {
		return int64(-low), api.OK
	}
	return int64(low), api.OK
}
