package months

import (
	"math"
	"testing"

	"circa/api"
)

// P5.1, P5.2: what is no month, for all functions of one month.
func TestNoMonths(t *testing.T) {
	for p, want := range faults() {
		if err := Check(p.y, p.m); err != want {
			t.Errorf("Check(%d, %d) = %d; want %d", p.y, p.m, err, want)
		}
		if n, err := Len(p.y, p.m); n != 0 || err != want {
			t.Errorf("Len(%d, %d) = %d, %d; want error %d", p.y, p.m, n, err, want)
		}
		if day, err := Start(p.y, p.m); day != 0 || err != want {
			t.Errorf("Start(%d, %d) = %d, %d; want error %d", p.y, p.m, day, err, want)
		}
		if day, err := End(p.y, p.m); day != 0 || err != want {
			t.Errorf("End(%d, %d) = %d, %d; want error %d", p.y, p.m, day, err, want)
		}
	}
}

// checkMonth holds all functions of one month, and of its days, against what is
// expected of it.
func checkMonth(t *testing.T, w month) {
	if err := Check(w.y, w.m); err != api.OK {
		t.Errorf("Check(%d, %d) = %d", w.y, w.m, err)
	}
	if n, err := Len(w.y, w.m); n != length(w.y, w.m) || err != api.OK {
		t.Errorf("Len(%d, %d) = %d, %d", w.y, w.m, n, err)
	}
	if day, err := Start(w.y, w.m); day != w.first || err != api.OK {
		t.Errorf("Start(%d, %d) = %d, %d; want %d", w.y, w.m, day, err, w.first)
	}
	if day, err := End(w.y, w.m); day != w.last || err != api.OK {
		t.Errorf("End(%d, %d) = %d, %d; want %d", w.y, w.m, day, err, w.last)
	}
	for day := w.first; day <= w.last; day++ {
		if y, m, err := Of(day); y != w.y || m != w.m || err != api.OK {
			t.Errorf("Of(%d) = %d, %d, %d; want %d, %d", day, y, m, err, w.y, w.m)
		}
	}
}

// P5.1, P5.2, P5.3, P5.6: months that a walk comes to, with each of their days.
func TestMonths(t *testing.T) {
	for _, place := range all() {
		for _, w := range place {
			checkMonth(t, w)
		}
	}
}

// P5.2, P5.3: the ends of the calendar.
func TestEndsOfCalendar(t *testing.T) {
	if day, err := Start(-api.MaxYear, 1); day != firstDay || err != api.OK {
		t.Errorf("Start(-MaxYear, 1) = %d, %d", day, err)
	}
	if day, err := End(api.MaxYear, 12); day != lastDay || err != api.OK {
		t.Errorf("End(MaxYear, 12) = %d, %d", day, err)
	}
	if y, m, err := Of(firstDay); y != -api.MaxYear || m != 1 || err != api.OK {
		t.Errorf("Of(%d) = %d, %d, %d", int64(firstDay), y, m, err)
	}
	if y, m, err := Of(lastDay); y != api.MaxYear || m != 12 || err != api.OK {
		t.Errorf("Of(%d) = %d, %d, %d", int64(lastDay), y, m, err)
	}
	for _, day := range []int64{
		firstDay - 1, lastDay + 1, firstDay - 31, lastDay + 31, firstDay - turnDays, lastDay + turnDays,
		math.MinInt64, math.MinInt64 + 1, math.MaxInt64, math.MaxInt64 - 1, 1 << 62, -1 << 62,
	} {
		if y, m, err := Of(day); y != 0 || m != 0 || err != api.ErrYear {
			t.Errorf("Of(%d) = %d, %d, %d", day, y, m, err)
		}
	}
}

// P5.6: the twelve months of a year have its days, and the first day of the
// month one on is the day after the last one.
func TestMonthsFollowEachOther(t *testing.T) {
	for _, place := range all() {
		for i, w := range place[:len(place)-1] {
			last, _ := End(w.y, w.m)
			y, m, err := Add(w.y, w.m, 1)
			if y != place[i+1].y || m != place[i+1].m || err != api.OK {
				t.Errorf("Add(%d, %d, 1) = %d, %d, %d", w.y, w.m, y, m, err)
			}
			if first, err := Start(y, m); first != last+1 || err != api.OK {
				t.Errorf("Start(%d, %d) = %d, %d; want %d", y, m, first, err, last+1)
			}
		}
		for i := 0; i < len(place); i += 12 {
			y, sum := place[i].y, 0
			for m := 1; m <= 12; m++ {
				n, _ := Len(y, m)
				sum += n
			}
			if isLeap(y) && sum != 366 || !isLeap(y) && sum != 365 {
				t.Errorf("the months of %d have %d days", y, sum)
			}
		}
	}
}

// P5.1 to P5.5: the chapter's examples.
func TestExamples(t *testing.T) {
	for p, want := range map[pair]int{{2000, 2}: 29, {1900, 2}: 28, {2001, 9}: 30} {
		if n, err := Len(p.y, p.m); n != want || err != api.OK {
			t.Errorf("Len(%d, %d) = %d, %d", p.y, p.m, n, err)
		}
	}
	for p, want := range map[pair]int64{{0, 3}: 60, {1970, 12}: 719862} {
		if day, err := Start(p.y, p.m); day != want || err != api.OK {
			t.Errorf("Start(%d, %d) = %d, %d", p.y, p.m, day, err)
		}
	}
	if day, err := End(0, 2); day != 59 || err != api.OK {
		t.Errorf("End(0, 2) = %d, %d", day, err)
	}
	for day, want := range map[int64]pair{59: {0, 2}, 60: {0, 3}, -1: {-1, 12}} {
		if y, m, err := Of(day); y != want.y || m != want.m || err != api.OK {
			t.Errorf("Of(%d) = %d, %d, %d", day, y, m, err)
		}
	}
	checkAdd(t, pair{1999, 11}, 3, pair{2000, 2}, api.OK)
	checkAdd(t, pair{2000, 1}, -1, pair{1999, 12}, api.OK)
	checkAdd(t, pair{api.MaxYear, 12}, 1, pair{}, api.ErrYear)
	checkBetween(t, pair{1999, 11}, pair{2000, 2}, 3, api.OK)
	checkBetween(t, pair{5, 1}, pair{4, 12}, -1, api.OK)
	if err := Check(1, 13); err != api.ErrMonth {
		t.Errorf("Check(1, 13) = %d", err)
	}
	if err := Check(api.MaxYear+1, 13); err != api.ErrYear {
		t.Errorf("Check(MaxYear+1, 13) = %d", err)
	}
}
