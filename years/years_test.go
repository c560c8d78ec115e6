package years

import (
	"math"
	"testing"

	"circa/api"
)

// P4.1: what is no year, for all functions of one year.
func TestNoYears(t *testing.T) {
	for _, y := range outside() {
		if err := Check(y); err != api.ErrYear {
			t.Errorf("Check(%d) = %d", y, err)
		}
		if leap, err := Leap(y); leap || err != api.ErrYear {
			t.Errorf("Leap(%d) = %v, %d", y, leap, err)
		}
		for name, f := range map[string]func(y int64) (int64, api.Errno){"Len": Len, "Start": Start, "End": End} {
			if n, err := f(y); n != 0 || err != api.ErrYear {
				t.Errorf("%s(%d) = %d, %d", name, y, n, err)
			}
		}
	}
}

// checkYear holds all functions of one year, and of its days, against what is
// expected of it. P4.1 to P4.4.
func checkYear(t *testing.T, y, first int64) {
	days := length(y)
	if err := Check(y); err != api.OK {
		t.Errorf("Check(%d) = %d", y, err)
	}
	if leap, err := Leap(y); leap != isLeap(y) || err != api.OK {
		t.Errorf("Leap(%d) = %v, %d", y, leap, err)
	}
	if n, err := Len(y); n != days || err != api.OK {
		t.Errorf("Len(%d) = %d, %d; want %d", y, n, err, days)
	}
	if day, err := Start(y); day != first || err != api.OK {
		t.Errorf("Start(%d) = %d, %d; want %d", y, day, err, first)
	}
	if day, err := End(y); day != first+days-1 || err != api.OK {
		t.Errorf("End(%d) = %d, %d; want %d", y, day, err, first+days-1)
	}
	for _, day := range []int64{first, first + 1, first + 58, first + 200, first + days - 2, first + days - 1} {
		if of, err := Of(day); of != y || err != api.OK {
			t.Errorf("Of(%d) = %d, %d; want %d", day, of, err, y)
		}
	}
	if n, err := Leaps(y, y); n != days-365 || err != api.OK {
		t.Errorf("Leaps(%d, %d) = %d, %d", y, y, n, err)
	}
}

// P4.1, P4.2, P4.3: the years that a walk from the year 0 comes to.
func TestYearsBesideZero(t *testing.T) {
	for y, first := range walk(2500) {
		checkYear(t, y, first)
	}
}

// P4.5: years that any number of turns later are as long, and begin as many
// turns of days later, up to both ends of the calendar.
func TestYearsFarAway(t *testing.T) {
	starts := walk(400)
	for _, turn := range turns() {
		for y := range int64(400) {
			checkYear(t, 400*turn+y, 146097*turn+starts[y])
		}
	}
	checkYear(t, api.MaxYear, 3652425000000000000)
}

// P4.2, P4.3: the ends of the calendar.
func TestEndsOfCalendar(t *testing.T) {
	if day, err := Start(-api.MaxYear); day != firstDay || err != api.OK {
		t.Errorf("Start(-MaxYear) = %d, %d", day, err)
	}
	if day, err := End(api.MaxYear); day != lastDay || err != api.OK {
		t.Errorf("End(MaxYear) = %d, %d", day, err)
	}
	for day, want := range map[int64]int64{firstDay: -api.MaxYear, lastDay: api.MaxYear, lastDay - 366: api.MaxYear - 1} {
		if y, err := Of(day); y != want || err != api.OK {
			t.Errorf("Of(%d) = %d, %d; want %d", day, y, err, want)
		}
	}
	for _, day := range []int64{
		firstDay - 1, lastDay + 1, firstDay - 366, lastDay + 366, firstDay - 146097, lastDay + 146097,
		math.MinInt64, math.MinInt64 + 1, math.MaxInt64, math.MaxInt64 - 1, 1 << 62, -1 << 62,
	} {
		if y, err := Of(day); y != 0 || err != api.ErrYear {
			t.Errorf("Of(%d) = %d, %d", day, y, err)
		}
	}
}

// P4.3: each day of more than one turn, on both sides of the day 0 and beside
// the ends of the calendar.
func TestOfEachDay(t *testing.T) {
	for _, from := range []int64{-450, 0, api.MaxYear - 449, -api.MaxYear} {
		day, err := Start(from)
		if err != api.OK {
			t.Fatalf("Start(%d): %d", from, err)
		}
		for y := from; y < from+450; y++ {
			for range length(y) {
				if of, err := Of(day); of != y || err != api.OK {
					t.Fatalf("Of(%d) = %d, %d; want %d", day, of, err, y)
				}
				day++
			}
		}
	}
}

// checkLeaps holds Leaps against a count.
func checkLeaps(t *testing.T, from, to, want int64) {
	if n, err := Leaps(from, to); n != want || err != api.OK {
		t.Errorf("Leaps(%d, %d) = %d, %d; want %d", from, to, n, err, want)
	}
}

// P4.4: against counts from each of many years on.
func TestLeaps(t *testing.T) {
	for _, from := range []int64{-804, -401, -400, -399, -101, -100, -99, -8, -5, -4, -3, -2, -1, 0, 1, 2, 3, 4, 5, 96, 100, 399, 400, 1900} {
		count := int64(0)
		for to := from; to <= from+900; to++ {
			count += length(to) - 365
			checkLeaps(t, from, to, count)
			if to > from {
				checkLeaps(t, to, from, 0)
			}
		}
	}
	checkLeaps(t, -api.MaxYear, api.MaxYear, 2*97*(api.MaxYear/400)+1)
	checkLeaps(t, api.MaxYear, -api.MaxYear, 0)
	checkLeaps(t, -api.MaxYear, -1, 97*(api.MaxYear/400))
	checkLeaps(t, 1, api.MaxYear, 97*(api.MaxYear/400))
}

// P4.4: the errors come ahead of the order of the years, and both are ErrYear.
func TestLeapsOfNoYears(t *testing.T) {
	for _, y := range outside() {
		for _, other := range []int64{0, 5, -5, api.MaxYear, -api.MaxYear, y, -api.MaxYear - 1, api.MaxYear + 1} {
			for _, pair := range [][2]int64{{y, other}, {other, y}} {
				if n, err := Leaps(pair[0], pair[1]); n != 0 || err != api.ErrYear {
					t.Errorf("Leaps(%d, %d) = %d, %d", pair[0], pair[1], n, err)
				}
			}
		}
	}
}

// P4.5: the year after begins the day after End, and 400 years have 146097 days
// and 97 leap years, whichever one they begin with.
func TestTurns(t *testing.T) {
	for _, turn := range turns() {
		for y := 400 * turn; y < 400*turn+400; y++ {
			last, _ := End(y)
			if next, err := Start(y + 1); next != last+1 || err != api.OK {
				t.Errorf("Start(%d) = %d, %d; want %d", y+1, next, err, last+1)
			}
			if y+399 > api.MaxYear {
				continue
			}
			checkLeaps(t, y, y+399, 97)
			first, _ := Start(y)
			if last, err := End(y + 399); last-first+1 != 146097 || err != api.OK {
				t.Errorf("End(%d) = %d, %d", y+399, last, err)
			}
		}
	}
}

// P4.1 to P4.4: the chapter's examples.
func TestExamples(t *testing.T) {
	for y, want := range map[int64]bool{0: true, 1900: false, 2000: true, -4: true, -100: false} {
		if leap, err := Leap(y); leap != want || err != api.OK {
			t.Errorf("Leap(%d) = %v, %d", y, leap, err)
		}
	}
	for y, want := range map[int64]int64{0: 0, 1: 366, -1: -365, 1970: 719528, 2000: 730485, api.MaxYear: 3652425000000000000} {
		if day, err := Start(y); day != want || err != api.OK {
			t.Errorf("Start(%d) = %d, %d; want %d", y, day, err, want)
		}
	}
	for y, want := range map[int64]int64{1999: 730484, api.MaxYear: 3652425000000000365} {
		if day, err := End(y); day != want || err != api.OK {
			t.Errorf("End(%d) = %d, %d; want %d", y, day, err, want)
		}
	}
	for day, want := range map[int64]int64{730484: 1999, -1: -1, 0: 0} {
		if y, err := Of(day); y != want || err != api.OK {
			t.Errorf("Of(%d) = %d, %d; want %d", day, y, err, want)
		}
	}
	checkLeaps(t, 1, 400, 97)
	checkLeaps(t, -4, 4, 3)
	checkLeaps(t, 5, 4, 0)
}
