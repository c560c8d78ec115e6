package civils

import (
	"math"
	"math/big"
	"testing"

	"circa/api"
)

// P6.1, P6.2, P6.4, P6.6: what is no civil day, for all functions of one.
func TestNoCivilDays(t *testing.T) {
	for c, want := range faults() {
		if err := Check(c); err != want {
			t.Errorf("Check(%v) = %d; want %d", c, err, want)
		}
		if day, err := Day(c); day != 0 || err != want {
			t.Errorf("Day(%v) = %d, %d; want error %d", c, day, err, want)
		}
		if n, err := Ordinal(c); n != 0 || err != want {
			t.Errorf("Ordinal(%v) = %d, %d; want error %d", c, n, err, want)
		}
		if s, err := Text(c); s != "" || err != want {
			t.Errorf("Text(%v) = %q, %d; want error %d", c, s, err, want)
		}
	}
}

// checkDay holds all functions of one day against what is expected of it.
func checkDay(t *testing.T, w walked) {
	if err := Check(w.civil); err != api.OK {
		t.Errorf("Check(%v) = %d", w.civil, err)
	}
	if day, err := Day(w.civil); day != w.day || err != api.OK {
		t.Errorf("Day(%v) = %d, %d; want %d", w.civil, day, err, w.day)
	}
	if c, err := Of(w.day); c != w.civil || err != api.OK {
		t.Errorf("Of(%d) = %v, %d; want %v", w.day, c, err, w.civil)
	}
	if n := Weekday(w.day); n != w.weekday {
		t.Errorf("Weekday(%d) = %d; want %d", w.day, n, w.weekday)
	}
	if n, err := Ordinal(w.civil); n != w.ordinal || err != api.OK {
		t.Errorf("Ordinal(%v) = %d, %d; want %d", w.civil, n, err, w.ordinal)
	}
	if c, err := FromOrdinal(w.civil.Year, w.ordinal); c != w.civil || err != api.OK {
		t.Errorf("FromOrdinal(%d, %d) = %v, %d; want %v", w.civil.Year, w.ordinal, c, err, w.civil)
	}
	if s, err := Text(w.civil); s != w.text || err != api.OK {
		t.Errorf("Text(%v) = %q, %d; want %q", w.civil, s, err, w.text)
	}
	if c, err := Parse(w.text); c != w.civil || err != api.OK {
		t.Errorf("Parse(%q) = %v, %d; want %v", w.text, c, err, w.civil)
	}
}

// P6.1 to P6.4, P6.6, P6.7: all days that walks come to, so that the pairs of
// functions invert each other.
func TestDays(t *testing.T) {
	walkAll(func(w walked) {
		checkDay(t, w)
		if t.Failed() {
			t.FailNow()
		}
	})
}

// P6.5, P6.7: days are in the order of their civil days.
func TestDaysAreInOrder(t *testing.T) {
	var before walked
	walkAll(func(w walked) {
		// The first day of a place comes from another one, which may be behind it.
		want := 1
		if w.day < before.day {
			want = -1
		}
		if w.day == before.day {
			want = 0
		}
		if Compare(w.civil, before.civil) != want || Compare(before.civil, w.civil) != -want {
			t.Errorf("%v and %v are not in order", before.civil, w.civil)
		}
		before = w
	})
}

// P6.2: the ends of the calendar, and what is behind them.
func TestEndsOfCalendar(t *testing.T) {
	first := api.Civil{Year: -api.MaxYear, Month: 1, Day: 1}
	last := api.Civil{Year: api.MaxYear, Month: 12, Day: 31}
	checkDay(t, walked{first, firstDay, saturday, 1, "-10000000000000000-01-01"})
	checkDay(t, walked{last, lastDay, 6, 366, "10000000000000000-12-31"})
	for _, day := range []int64{
		firstDay - 1, lastDay + 1, firstDay - 31, lastDay + 31, firstDay - turnDays, lastDay + turnDays,
		math.MinInt64, math.MinInt64 + 1, math.MaxInt64, math.MaxInt64 - 1, 1 << 62, -1 << 62,
	} {
		if c, err := Of(day); c != (api.Civil{}) || err != api.ErrYear {
			t.Errorf("Of(%d) = %v, %d", day, c, err)
		}
	}
}

// scattered are days of the calendar, at its ends, and behind them up to the
// ends of the numbers.
func scattered() []int64 {
	l := []int64{}
	for _, day := range []int64{0, 719528, firstDay, lastDay, 1 << 32, -1 << 32, 1 << 62, -1 << 62, math.MaxInt64 / 3, math.MinInt64 / 5} {
		for d := int64(-8); d <= 8; d++ {
			l = append(l, day+d)
		}
	}
	for d := range int64(17) {
		l = append(l, math.MaxInt64-d, math.MinInt64+d)
	}
	return l
}

// P6.3, P6.7: the weekday of any day, reckoned with numbers of any size.
func TestWeekday(t *testing.T) {
	for _, day := range scattered() {
		n := new(big.Int).Add(big.NewInt(day), big.NewInt(saturday))
		want := int(n.Mod(n, big.NewInt(7)).Int64())
		if got := Weekday(day); got != want {
			t.Errorf("Weekday(%d) = %d; want %d", day, got, want)
		}
		for _, on := range []int64{7, turnDays} {
			if day <= math.MaxInt64-on && Weekday(day+on) != want {
				t.Errorf("Weekday(%d) = %d; want %d", day+on, Weekday(day+on), want)
			}
		}
		if day < math.MaxInt64 && Weekday(day+1) != (want+1)%7 {
			t.Errorf("Weekday(%d) = %d", day+1, Weekday(day+1))
		}
	}
}

// P6.7: 400 years on, month, day, weekday and ordinal are the same.
func TestTurns(t *testing.T) {
	walk(-4, -365*4-1, 20, func(w walked) {
		for _, turns := range []int64{1, -1, 5, 1 << 40, -1 << 40} {
			on := w.day + turns*turnDays
			c, err := Of(on)
			if c != (api.Civil{Year: w.civil.Year + 400*turns, Month: w.civil.Month, Day: w.civil.Day}) || err != api.OK {
				t.Errorf("Of(%d) = %v, %d", on, c, err)
			}
			if n, err := Ordinal(c); n != w.ordinal || err != api.OK {
				t.Errorf("Ordinal(%v) = %d, %d; want %d", c, n, err, w.ordinal)
			}
			if Weekday(on) != Weekday(w.day) {
				t.Errorf("Weekday(%d) = %d", on, Weekday(on))
			}
		}
	})
}

// P6.4: the error of the year comes first, then that of the ordinal.
func TestFromOrdinalRefuses(t *testing.T) {
	numbers := []int{
		0, -1, -365, 367, 368, 1000, 1 + 1<<16, 1 + 1<<32, -1 << 32,
		math.MaxInt, math.MaxInt - 1, math.MinInt, math.MinInt + 1,
	}
	refuse := func(y int64, n int, want api.Errno) {
		if c, err := FromOrdinal(y, n); c != (api.Civil{}) || err != want {
			t.Errorf("FromOrdinal(%d, %d) = %v, %d; want error %d", y, n, c, err, want)
		}
	}
	for _, y := range noYears() {
		for _, n := range append(numbers, 1, 59, 60, 365, 366) {
			refuse(y, n, api.ErrYear)
		}
	}
	for _, y := range []int64{0, 1, -1, -4, -100, 1900, 2000, 2001, api.MaxYear, -api.MaxYear} {
		for _, n := range numbers {
			refuse(y, n, api.ErrRange)
		}
		if !isLeap(y) {
			refuse(y, 366, api.ErrRange)
		}
	}
}

// P6.5: all triples of a few numbers, which need not be right.
func TestCompare(t *testing.T) {
	l := []api.Civil{}
	for _, y := range []int64{math.MinInt64, -api.MaxYear, -1, 0, 1, 2000, math.MaxInt64} {
		for _, m := range []int{math.MinInt, -1, 0, 2, 13, math.MaxInt} {
			for _, d := range []int{math.MinInt, -1, 0, 30, math.MaxInt} {
				l = append(l, api.Civil{Year: y, Month: m, Day: d})
			}
		}
	}
	for i, a := range l {
		for j, b := range l {
			want := 0
			if i < j {
				want = -1
			}
			if i > j {
				want = 1
			}
			if got := Compare(a, b); got != want {
				t.Errorf("Compare(%v, %v) = %d; want %d", a, b, got, want)
			}
		}
	}
}

// P6.1 to P6.4: the chapter's examples.
func TestExamples(t *testing.T) {
	for c, want := range map[api.Civil]int64{{Month: 1, Day: 1}: 0, {Year: 1970, Month: 1, Day: 1}: 719528} {
		if day, err := Day(c); day != want || err != api.OK {
			t.Errorf("Day(%v) = %d, %d", c, day, err)
		}
	}
	for c, want := range map[api.Civil]api.Errno{{Year: 2000, Month: 2, Day: 30}: api.ErrDay, {Year: 1, Month: 13, Day: 1}: api.ErrMonth} {
		if day, err := Day(c); day != 0 || err != want {
			t.Errorf("Day(%v) = %d, %d", c, day, err)
		}
	}
	for day, want := range map[int64]api.Civil{-1: {Year: -1, Month: 12, Day: 31}, 730544: {Year: 2000, Month: 2, Day: 29}} {
		if c, err := Of(day); c != want || err != api.OK {
			t.Errorf("Of(%d) = %v, %d", day, c, err)
		}
	}
	if a, b := Weekday(0), Weekday(719528); a != 5 || b != 3 {
		t.Errorf("Weekday(0), Weekday(719528) = %d, %d", a, b)
	}
	if n, err := Ordinal(api.Civil{Year: 2000, Month: 3, Day: 1}); n != 61 || err != api.OK {
		t.Errorf("Ordinal(2000-03-01) = %d, %d", n, err)
	}
	if c, err := FromOrdinal(1900, 60); c != (api.Civil{Year: 1900, Month: 3, Day: 1}) || err != api.OK {
		t.Errorf("FromOrdinal(1900, 60) = %v, %d", c, err)
	}
	if c, err := FromOrdinal(1900, 366); c != (api.Civil{}) || err != api.ErrRange {
		t.Errorf("FromOrdinal(1900, 366) = %v, %d", c, err)
	}
}
