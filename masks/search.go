package masks

import "circa/api"

// Next returns the least number of a mask that is at least n: ErrNone if there
// is none.
func Next(m string, n int64) (int64, api.Errno) {
	least, greatest, err := ends(m)
	if err != api.OK {
		return 0, err
	}
	if n > greatest {
		return 0, api.ErrNone
	}
	return nearest(m, max(n, least), 1), api.OK
}

// Prev returns the greatest number of a mask that is at most n: ErrNone if
// there is none.
func Prev(m string, n int64) (int64, api.Errno) {
	least, greatest, err := ends(m)
	if err != api.OK {
		return 0, err
	}
	if n < least {
		return 0, api.ErrNone
	}
	return nearest(m, min(n, greatest), -1), api.OK
}

// Nth returns the number of a mask with an index: ErrRange if there is none.
func Nth(m string, i int64) (int64, api.Errno) {
	count, err := Count(m)
	if err != api.OK {
		return 0, err
	}
	if i < 0 || i >= count {
		return 0, api.ErrRange
	}
	// The digits of the index are those of the X, the last ones first.
	d := filled(m, 0)
	for place := len(m) - 1; place >= 0; place-- {
		if m[place] == open {
			d[place] = i % 10
			i /= 10
		}
	}
	return d.number(len(m)), api.OK
}

// Index returns the index of a number of a mask: ErrNone if it is none.
func Index(m string, n int64) (int64, api.Errno) {
	if err := Check(m); err != api.OK {
		return 0, err
	}
	if !Has(m, n) {
		return 0, api.ErrNone
	}
	d, index := digitsOf(n, len(m)), int64(0)
	for place, c := range m {
		if c == open {
			index = 10*index + d[place]
		}
	}
	return index, api.OK
}

// nearest returns the number of a mask that is nearest to n, upwards for the
// step 1 and downwards for -1, from n on. There has to be one, and n has to be
// between the ends of the mask.
func nearest(m string, n, step int64) int64 {
	d := digitsOf(n, len(m))
	at := d.clash(m)
	if at == len(m) {
		return n
	}
	// The later the place that changes, the nearer is the number. No place
	// behind the clash can be the one, because the digits up to it stay wrong.
back:
	for ; at >= 0; at-- {
		for digit := d[at] + step; 0 <= digit && digit <= 9; digit += step {
			if allows(rune(m[at]), digit) {
				d[at] = digit
				break back
			}
		}
	}
	// Behind that place all digits are free to be those next to n.
	rest := filled(m, 0)
	if step < 0 {
		rest = filled(m, 9)
	}
	copy(d[at+1:], rest[at+1:])
	return d.number(len(m))
}
