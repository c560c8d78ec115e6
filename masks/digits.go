package masks

// digits are those of a number with leading zeros: as many as the mask has
// bytes, from the first place on.
type digits [MaxLen]int64

// digitsOf returns the last digits of a number that is not negative.
func digitsOf(n int64, length int) digits {
	var d digits
	for i := length - 1; i >= 0; i-- {
		d[i] = n % 10
		n /= 10
	}
	return d
}

// filled returns the digits of a mask, with the same digit at each X.
func filled(m string, digit int64) digits {
	var d digits
	for i, c := range m {
		d[i] = fill(c, digit)
	}
	return d
}

// number returns the number that as many digits make.
func (d digits) number(length int) int64 {
	n := int64(0)
	for _, digit := range d[:length] {
		n = 10*n + digit
	}
	return n
}

// clash returns the first place at which digits do not agree with a mask: its
// length if there is none.
func (d digits) clash(m string) int {
	for i, c := range m {
		if !allows(c, d[i]) {
			return i
		}
	}
	return len(m)
}

// fill returns the digit that a place of a mask has: an X gets the one given.
func fill(c rune, digit int64) int64 {
	if c == open {
		return digit
	}
	return int64(c - '0')
}

// allows reports whether a place of a mask can have a digit.
func allows(c rune, digit int64) bool { return fill(c, digit) == digit }
