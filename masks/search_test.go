package masks

import (
	"strings"
	"testing"

	"circa/api"
)

type call func(m string, n int64) (int64, api.Errno)

type callCase struct {
	m    string
	n    int64
	want int64
	err  api.Errno
}

func checkCall(t *testing.T, name string, f call, m string, n, want int64, wantErr api.Errno) {
	if got, err := f(m, n); got != want || err != wantErr {
		t.Helper() // here, because most calls come this way and do not fail
		t.Fatalf("%s(%s, %d) = %d, %d; want %d, %d", name, m, n, got, err, want, wantErr)
	}
}

func checkCalls(t *testing.T, name string, f call, cases []callCase) {
	t.Helper()
	for _, c := range cases {
		checkCall(t, name, f, c.m, c.n, c.want, c.err)
	}
}

// P3.3
func TestNext(t *testing.T) {
	full, nines := strings.Repeat("X", MaxLen), strings.Repeat("9", MaxLen)
	checkCalls(t, "Next", Next, []callCase{
		{"1X0X", 1010, 1100, api.OK},
		{"1X0X", 1950, 0, api.ErrNone},
		{"1X0X", -5, 1000, api.OK},
		{"1X0X", 0, 1000, api.OK},
		{"1X0X", 1909, 1909, api.OK},
		{"1X0X", 1910, 0, api.ErrNone},
		{"1X0X", 11000, 0, api.ErrNone},
		{"1X0X", least, 1000, api.OK},
		{"1X0X", greatest, 0, api.ErrNone},
		{"X", 9, 9, api.OK},
		{"X", 10, 0, api.ErrNone},
		{"0", -1, 0, api.OK},
		{"0", 1, 0, api.ErrNone},
		{"7", 6, 7, api.OK},
		{"7", 8, 0, api.ErrNone},
		{"X0", 91, 0, api.ErrNone},
		{"X0", 81, 90, api.OK},
		{"X9X", 300, 390, api.OK},
		{"X9X", 989, 990, api.OK},
		{"X99X5", 19995, 19995, api.OK},
		{"X99X5", 19996, 29905, api.OK},
		{"5XX5", 5996, 0, api.ErrNone},
		{"2XX7", 2098, 2107, api.OK},
		{full, 999999999999999999, 999999999999999999, api.OK},
		{full, 1000000000000000000, 0, api.ErrNone},
		{full, greatest, 0, api.ErrNone},
		{full, least, 0, api.OK},
		{nines, least, 999999999999999999, api.OK},
		{"X" + nines[1:], 899999999999999998, 899999999999999999, api.OK},
		{"X" + nines[1:], 900000000000000000, 999999999999999999, api.OK},
	})
}

// P3.3
func TestPrev(t *testing.T) {
	full, zeros := strings.Repeat("X", MaxLen), strings.Repeat("0", MaxLen)
	checkCalls(t, "Prev", Prev, []callCase{
		{"1X0X", 1099, 1009, api.OK},
		{"1X0X", 1000, 1000, api.OK},
		{"1X0X", 999, 0, api.ErrNone},
		{"1X0X", -5, 0, api.ErrNone},
		{"1X0X", 1950, 1909, api.OK},
		{"1X0X", 11000, 1909, api.OK},
		{"1X0X", least, 0, api.ErrNone},
		{"1X0X", greatest, 1909, api.OK},
		{"X", 0, 0, api.OK},
		{"X", -1, 0, api.ErrNone},
		{"X", 10, 9, api.OK},
		{"0", 1, 0, api.OK},
		{"0", -1, 0, api.ErrNone},
		{"7", 6, 0, api.ErrNone},
		{"7", 8, 7, api.OK},
		{"X0", 95, 90, api.OK},
		{"X9X", 989, 899, api.OK},
		{"X00X5", 30004, 20095, api.OK},
		{"X00X5", 4, 0, api.ErrNone},
		{"2XX7", 2106, 2097, api.OK},
		{full, 0, 0, api.OK},
		{full, -1, 0, api.ErrNone},
		{full, greatest, 999999999999999999, api.OK},
		{full, 1000000000000000000, 999999999999999999, api.OK},
		{zeros, greatest, 0, api.OK},
		{"X" + zeros[1:], 899999999999999999, 800000000000000000, api.OK},
	})
}

// P3.4
func TestNth(t *testing.T) {
	full := strings.Repeat("X", MaxLen)
	checkCalls(t, "Nth", Nth, []callCase{
		{"1X0X", 37, 1307, api.OK},
		{"1X0X", 0, 1000, api.OK},
		{"1X0X", 99, 1909, api.OK},
		{"1X0X", 100, 0, api.ErrRange},
		{"1X0X", -1, 0, api.ErrRange},
		{"1X0X", least, 0, api.ErrRange},
		{"1X0X", greatest, 0, api.ErrRange},
		{"7", 0, 7, api.OK},
		{"7", 1, 0, api.ErrRange},
		{"7", 7, 0, api.ErrRange},
		{"X2X", 99, 929, api.OK},
		{"XX", 5, 5, api.OK},
		{full, 999999999999999999, 999999999999999999, api.OK},
		{full, 1000000000000000000, 0, api.ErrRange},
		{full, 123456789012345678, 123456789012345678, api.OK},
	})
}

// P3.4
func TestIndex(t *testing.T) {
	full := strings.Repeat("X", MaxLen)
	checkCalls(t, "Index", Index, []callCase{
		{"1X0X", 1307, 37, api.OK},
		{"1X0X", 1317, 0, api.ErrNone},
		{"1X0X", 1000, 0, api.OK},
		{"1X0X", 1909, 99, api.OK},
		{"1X0X", 1910, 0, api.ErrNone},
		{"1X0X", 999, 0, api.ErrNone},
		{"1X0X", 11307, 0, api.ErrNone},
		{"1X0X", -1307, 0, api.ErrNone},
		{"1X0X", least, 0, api.ErrNone},
		{"1X0X", greatest, 0, api.ErrNone},
		{"7", 7, 0, api.OK},
		{"7", 0, 0, api.ErrNone},
		{"X2X", 128, 18, api.OK},
		{"XX", 100, 0, api.ErrNone},
		{full, 999999999999999999, 999999999999999999, api.OK},
		{full, 1000000000000000000, 0, api.ErrNone},
	})
}

// P3.2 to P3.4: at each number about, all answers are those that a list of the
// numbers of the mask gives.
func TestShortMasksAreTheirLists(t *testing.T) {
	for _, m := range shortMasks() {
		limit := int64(1)
		for range len(m) {
			limit *= 10
		}
		checkList(t, m, limit, listOf(m))
	}
}

func checkList(t *testing.T, m string, limit int64, numbers []int64) {
	t.Helper()
	at := 0 // how many numbers are below n
	for n := int64(-3); n <= limit+3; n++ {
		has := at < len(numbers) && numbers[at] == n
		if Has(m, n) != has {
			t.Fatalf("Has(%s, %d) = %t", m, n, !has)
		}
		if at < len(numbers) {
			checkCall(t, "Next", Next, m, n, numbers[at], api.OK)
		} else {
			checkCall(t, "Next", Next, m, n, 0, api.ErrNone)
		}
		if has {
			checkCall(t, "Index", Index, m, n, int64(at), api.OK)
			at++
		} else {
			checkCall(t, "Index", Index, m, n, 0, api.ErrNone)
		}
		if at > 0 {
			checkCall(t, "Prev", Prev, m, n, numbers[at-1], api.OK)
		} else {
			checkCall(t, "Prev", Prev, m, n, 0, api.ErrNone)
		}
	}
	for i, n := range numbers {
		checkCall(t, "Nth", Nth, m, int64(i), n, api.OK)
	}
	checkCall(t, "Nth", Nth, m, int64(len(numbers)), 0, api.ErrRange)
	checkCall(t, "Nth", Nth, m, -1, 0, api.ErrRange)
}

// P3.3, P3.6: Next of a number that the mask has is it; between n and Next
// there is none; and the same for Prev.
func TestNothingIsBetweenNumberAndNext(t *testing.T) {
	for _, m := range longMasks() {
		for _, n := range about(m) {
			next, err := Next(m, n)
			switch {
			case below(m, n) == power(m):
				checkCall(t, "Next", Next, m, n, 0, api.ErrNone)
			case err != api.OK || next < n || !agrees(m, next) || below(m, next) != below(m, n):
				t.Fatalf("Next(%s, %d) = %d, %d", m, n, next, err)
			case agrees(m, n) && next != n:
				t.Fatalf("Next(%s, %d) = %d, but it has that number", m, n, next)
			}
			upTo := below(m, n)
			if agrees(m, n) {
				upTo++
			}
			prev, err := Prev(m, n)
			switch {
			case upTo == 0:
				checkCall(t, "Prev", Prev, m, n, 0, api.ErrNone)
			case err != api.OK || prev > n || !agrees(m, prev) || below(m, prev) != upTo-1:
				t.Fatalf("Prev(%s, %d) = %d, %d", m, n, prev, err)
			}
		}
	}
}

// P3.4, P3.6: Nth inverts Index, and Index inverts Nth.
func TestNthInvertsIndex(t *testing.T) {
	for _, m := range longMasks() {
		for _, n := range about(m) {
			if !agrees(m, n) {
				checkCall(t, "Index", Index, m, n, 0, api.ErrNone)
			} else {
				checkCall(t, "Index", Index, m, n, below(m, n), api.OK)
				checkCall(t, "Nth", Nth, m, below(m, n), n, api.OK)
			}
			if n < 0 || n >= power(m) {
				checkCall(t, "Nth", Nth, m, n, 0, api.ErrRange)
				continue
			}
			nth, err := Nth(m, n)
			if err != api.OK || !agrees(m, nth) || below(m, nth) != n {
				t.Fatalf("Nth(%s, %d) = %d, %d", m, n, nth, err)
			}
			checkCall(t, "Index", Index, m, nth, n, api.OK)
		}
	}
}
