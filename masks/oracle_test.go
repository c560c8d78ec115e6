package masks

import (
	"fmt"
	"math"
	"strings"
)

const (
	least    = math.MinInt64
	greatest = math.MaxInt64
)

// padded is a number that is not negative, with leading zeros.
func padded(n int64, length int) string { return fmt.Sprintf("%0*d", length, n) }

// agrees holds a number against a mask by its text, as the document defines it.
func agrees(m string, n int64) bool {
	if n < 0 {
		return false
	}
	text := padded(n, len(m))
	if len(text) != len(m) {
		return false
	}
	for i := range len(m) {
		if m[i] != 'X' && m[i] != text[i] {
			return false
		}
	}
	return true
}

// power is 10 to the number of X in a part of a mask.
func power(part string) int64 {
	p := int64(1)
	for range strings.Count(part, "X") {
		p *= 10
	}
	return p
}

// below counts the numbers of a mask that are less than n: at each place those
// whose digits are the ones of n up to there, and which have a lesser one there.
func below(m string, n int64) int64 {
	if n <= 0 {
		return 0
	}
	text := padded(n, len(m))
	if len(text) > len(m) {
		return power(m)
	}
	count := int64(0)
	for i := range len(m) {
		switch rest := power(m[i+1:]); {
		case m[i] == 'X':
			count += int64(text[i]-'0') * rest
		case m[i] < text[i]:
			return count + rest
		case m[i] > text[i]:
			return count
		}
	}
	return count
}

// textsOf are all texts of a length over some bytes.
func textsOf(length int, bytes string) []string {
	texts := []string{""}
	for range length {
		var longer []string
		for _, s := range texts {
			for i := range len(bytes) {
				longer = append(longer, s+bytes[i:i+1])
			}
		}
		texts = longer
	}
	return texts
}

// listOf are the numbers of a mask, ascending, found by writing them out.
func listOf(m string) []int64 {
	l := []int64{0}
	for i := range len(m) {
		var longer []int64
		for _, n := range l {
			for digit := range int64(10) {
				if m[i] == 'X' || m[i] == "0123456789"[digit] {
					longer = append(longer, 10*n+digit)
				}
			}
		}
		l = longer
	}
	return l
}

// shortMasks are all masks of up to three bytes, and those of four bytes in
// which only the digits at the ends stand, and one between them.
func shortMasks() []string {
	l := textsOf(1, "0123456789X")
	l = append(l, textsOf(2, "0123456789X")...)
	l = append(l, textsOf(3, "0123456789X")...)
	return append(l, textsOf(4, "049X")...)
}

// scatter returns numbers below a limit that follow no pattern, the same ones
// each time.
func scatter() func(limit int64) int64 {
	state := uint64(1)
	return func(limit int64) int64 {
		state = state*6364136223846793005 + 1442695040888963407
		return int64(state>>1) % limit
	}
}

// longMasks are masks of all lengths: with X everywhere, at either end, at
// every other place, nowhere, and strewn among any digits or those at the ends.
func longMasks() []string {
	var l []string
	next := scatter()
	for n := 1; n <= MaxLen; n++ {
		x := strings.Repeat("X", n)
		l = append(l, x, strings.Repeat("0", n), strings.Repeat("9", n), strings.Repeat("7", n),
			x[1:]+"0", x[1:]+"9", x[1:]+"4", "0"+x[1:], "9"+x[1:], "4"+x[1:],
			strings.Repeat("X5", n)[:n], strings.Repeat("0X", n)[:n], strings.Repeat("X9", n)[:n])
		for _, bytes := range []string{"0123456789XXXXXXXXXX", "09X", "0123456789X", "XXXX0123456789XXXXXXXXXXXXXXXXXX"} {
			for range 5 {
				m := ""
				for range n {
					m += string(bytes[next(int64(len(bytes)))])
				}
				l = append(l, m)
			}
		}
	}
	return l
}

// about are numbers at which a mask can change what it answers: those of the
// mask, their neighbours, any others, and the ends of all.
func about(m string) []int64 {
	limit := int64(math.Pow10(len(m)))
	l := []int64{least, least + 1, -limit, -2, -1, 0, 1, 2, limit - 2, limit - 1, limit, limit + 1, greatest - 1, greatest}
	next := scatter()
	for range 40 {
		l = append(l, next(limit))
		text := ""
		for _, c := range m {
			if c == 'X' {
				c = '0' + rune(next(10))
			}
			text += string(c)
		}
		n := int64(0)
		fmt.Sscanf(text, "%d", &n)
		p := int64(math.Pow10(int(next(int64(len(m))))))
		l = append(l, n-1, n, n+1, n-p, n+p)
	}
	for _, x := range []string{"0", "9"} {
		n := int64(0)
		fmt.Sscanf(strings.ReplaceAll(m, "X", x), "%d", &n)
		l = append(l, n-1, n, n+1)
	}
	return l
}
