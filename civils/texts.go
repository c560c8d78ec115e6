package civils

import (
	"strings"

	"circa/api"
	"circa/ints"
)

// minus is the sign of a year below 0, and stands between the parts of a text.
const minus = "-"

// How many digits a part of a text has at least; months and days have no more.
const (
	yearDigits = 4
	partDigits = 2
)

// Text returns the text of a civil day.
func Text(c api.Civil) (string, api.Errno) {
	if err := Check(c); err != api.OK {
		return "", err
	}
	parts := []string{
		padded(c.Year, yearDigits),
		padded(int64(c.Month), partDigits),
		padded(int64(c.Day), partDigits),
	}
	return strings.Join(parts, minus), api.OK
}

// Parse returns the civil day with a text: ErrForm if numbers would not have
// it, then the error of Check.
func Parse(s string) (c api.Civil, err api.Errno) {
	defer func() {
		if fault, ok := recover().(api.Errno); ok {
			c, err = api.Civil{}, fault
		}
	}()
	left := rest{s}
	cut := left.cut
	c.Day = int(number("", cut(), partDigits))
	c.Month = int(number("", cut(), partDigits))
	// The year stands first, but is read last: it may be too great although
	// its form is right, and a wrong form of the others comes ahead of that.
	c.Year = year(left.text)
	throw(Check(c))
	return c, api.OK
}

// padded returns the text of a number of the calendar, with zeros that make it
// at least as many digits.
func padded(n int64, width int) string {
	sign, digits := signed(ints.Text(n))
	return sign + strings.Repeat("0", max(0, width-len(digits))) + digits
}

// signed parts a text into its minus sign, if it has one, and what is behind it.
func signed(text string) (sign, digits string) {
	digits = strings.TrimPrefix(text, minus)
	return text[:len(text)-len(digits)], digits
}

// rest is what is left of a text of which parts are cut off.
type rest struct{ text string }

// cut cuts off the last part, and the minus sign ahead of it. It throws ErrForm
// if no minus sign is there.
func (r *rest) cut() string {
	at := max(0, len(r.text)-partDigits-len(minus))
	part, found := strings.CutPrefix(r.text[at:], minus)
	if !found {
		throw(api.ErrForm)
	}
	r.text = r.text[:at]
	return part
}

// year returns the number of a year that is written with its sign.
func year(text string) int64 {
	sign, digits := signed(text)
	return number(sign, digits, yearDigits)
}

// number returns the number with a sign, if it has one, and digits. It throws
// ErrForm if they are none, if there are too few of them, or if they begin with
// a zero without need; and ErrYear if the number does not fit, which one of two
// digits always does.
func number(sign, digits string, width int) int64 {
	if len(digits) < width || strings.Trim(digits, "0123456789") != "" {
		throw(api.ErrForm)
	}
	if len(digits) == width {
		last := width - 1
		digits = strings.TrimLeft(digits[:last], "0") + digits[last:]
	}
	n, err := ints.Parse(sign + digits)
	if err == api.ErrOverflow {
		throw(api.ErrYear)
	}
	throw(err)
	return n
}

// throw panics with an error, if it is one: Parse recovers it.
func throw(err api.Errno) {
	if err != api.OK {
		panic(err)
	}
}
