package ints

import (
	"strconv"
	"strings"

	"circa/api"
)

// Text returns the text of a number.
func Text(n int64) string { return strconv.FormatInt(n, 10) }

// Parse returns the number with a text: ErrForm if it is the text of no
// integer, ErrOverflow if it is that of an integer that does not fit.
func Parse(s string) (int64, api.Errno) {
	if !isText(s) {
		return 0, api.ErrForm
	}
	n, err := strconv.ParseInt(s, 10, 64)
	if err != nil {
		// The form is right, so that only the size can be wrong.
		return 0, api.ErrOverflow
	}
	return n, api.OK
}

// isText reports whether s is the text of an integer, of any size.
func isText(s string) bool {
	if s == "0" {
		return true
	}
	digits := strings.TrimPrefix(s, "-")
	return digits != "" && digits[0] != '0' && strings.Trim(digits, "0123456789") == ""
}
