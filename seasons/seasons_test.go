package seasons

import (
	"slices"
	"testing"

	"circa/api"
)

func checkMonths(t *testing.T, code, from, many int, refused api.Errno) {
	if f, n, err := Months(code); f != from || n != many || err != refused {
		t.Helper()
		t.Errorf("Months(%d) = %d, %d, %d; want %d, %d, %d", code, f, n, err, from, many, refused)
	}
}

func checkRun(t *testing.T, y int64, code int, want api.Run, refused api.Errno) {
	if r, err := Run(y, code); r != want || err != refused {
		t.Helper()
		t.Errorf("Run(%d, %d) = %v, %d; want %v, %d", y, code, r, err, want, refused)
	}
}

func checkOf(t *testing.T, day int64, code int, want int64, is bool, refused api.Errno) {
	if y, found, err := Of(day, code); y != want || found != is || err != refused {
		t.Helper()
		t.Errorf("Of(%d, %d) = %d, %t, %d; want %d, %t, %d", day, code, y, found, err, want, is, refused)
	}
}

func checkCodes(t *testing.T, day int64, want []int, refused api.Errno) {
	l, err := Codes(day)
	if !slices.Equal(l, want) || err != refused {
		t.Helper()
		t.Errorf("Codes(%d) = %v, %d; want %v, %d", day, l, err, want, refused)
	}
	if cap(l) != len(l) {
		t.Errorf("Codes(%d) has room for %d more", day, cap(l)-len(l))
	}
}

// P7.1: all codes.
func TestMonths(t *testing.T) {
	for code := 21; code <= 41; code++ {
		if err := Check(code); err != api.OK {
			t.Errorf("Check(%d) = %d", code, err)
		}
		list := monthsOf()[code]
		checkMonths(t, code, list[0], len(list), api.OK)
	}
}

// P7.1, P7.2, P7.3: what is no code, also where the year or the day is none.
func TestNoCodes(t *testing.T) {
	for _, code := range noCodes() {
		if err := Check(code); err != api.ErrMonth {
			t.Errorf("Check(%d) = %d", code, err)
		}
		checkMonths(t, code, 0, 0, api.ErrMonth)
		for _, y := range append(noYears(), 0, 1, -1, 2000, api.MaxYear, -api.MaxYear) {
			checkRun(t, y, code, api.Run{}, api.ErrMonth)
		}
		for _, day := range append(noDays(), 0, 60, -1, 730485, firstDay, lastDay) {
			checkOf(t, day, code, 0, false, api.ErrMonth)
		}
	}
}

// P7.2: what is no year.
func TestNoYears(t *testing.T) {
	for _, y := range noYears() {
		for code := range monthsOf() {
			checkRun(t, y, code, api.Run{}, api.ErrYear)
		}
	}
}

// P7.3, P7.4: what is no day of the calendar.
func TestNoDays(t *testing.T) {
	for _, day := range noDays() {
		for code := range monthsOf() {
			checkOf(t, day, code, 0, false, api.ErrYear)
		}
		checkCodes(t, day, nil, api.ErrYear)
	}
}

// P7.2: the runs that begin in each month that a walk comes to.
func TestRuns(t *testing.T) {
	lists := monthsOf()
	for _, place := range places() {
		for i, w := range place {
			for code, list := range lists {
				end := i + len(list) - 1
				if w.m == list[0] && end < len(place) {
					checkRun(t, w.y, code, run(w.first, place[end].last), api.OK)
				}
			}
		}
	}
}

// P7.2: the years at both ends of the calendar. Only in the last one are there
// codes whose months are not all there.
func TestRunsAtEnds(t *testing.T) {
	first, last := walk(-api.MaxYear, 2), walk(api.MaxYear, 1)
	for code, list := range monthsOf() {
		from := list[0] - 1
		checkRun(t, -api.MaxYear, code, run(first[from].first, first[from+len(list)-1].last), api.OK)
		if list[0] == 12 {
			checkRun(t, api.MaxYear, code, api.Run{}, api.ErrYear)
			continue
		}
		checkRun(t, api.MaxYear, code, run(last[from].first, last[from+len(list)-1].last), api.OK)
	}
	checkRun(t, api.MaxYear-1, 24, run(lastDay-365-31, lastDay-365+31+29-1), api.OK)
}

// checkDay holds all functions of a day of a month against what is expected.
func checkDay(t *testing.T, lists map[int][]int, day int64, w month) {
	var codes []int
	for code := 21; code <= 41; code++ {
		y, is := yearOf(w, lists[code])
		if !is {
			y = 0
		} else {
			codes = append(codes, code)
		}
		checkOf(t, day, code, y, is, api.OK)
	}
	checkCodes(t, day, codes, api.OK)
}

// P7.3, P7.4: all days of a few years at each place.
func TestDays(t *testing.T) {
	lists := monthsOf()
	for _, w := range someYears() {
		for day := w.first; day <= w.last; day++ {
			checkDay(t, lists, day, w)
		}
	}
}

// P7.3, P7.4: the first and the last days of all months.
func TestEdgesOfMonths(t *testing.T) {
	lists := monthsOf()
	for _, place := range places() {
		for _, w := range place {
			checkDay(t, lists, w.first, w)
			checkDay(t, lists, w.last, w)
		}
	}
}

// P7.3, P7.4: the first two months of the calendar, and the last one, would be
// months of runs that leave it.
func TestDaysAtEnds(t *testing.T) {
	for _, code := range []int{24, 28, 30} {
		checkOf(t, firstDay, code, 0, false, api.OK)
		checkOf(t, firstDay+31+29-1, code, 0, false, api.OK)
		checkOf(t, firstDay+366-31, code, -api.MaxYear, true, api.OK)
		checkOf(t, lastDay, code, 0, false, api.OK)
		checkOf(t, lastDay-30, code, 0, false, api.OK)
		checkOf(t, lastDay-365, code, api.MaxYear-1, true, api.OK)
		checkOf(t, lastDay-365+31+29-1, code, api.MaxYear-1, true, api.OK)
	}
	checkCodes(t, firstDay, []int{33, 37, 40}, api.OK)
	checkCodes(t, firstDay+31+29-1, []int{33, 37, 40}, api.OK)
	checkCodes(t, firstDay+31+29, []int{21, 25, 31, 33, 37, 40}, api.OK)
	checkCodes(t, lastDay-31, []int{23, 27, 29, 36, 39, 41}, api.OK)
	checkCodes(t, lastDay-30, []int{36, 39, 41}, api.OK)
	checkCodes(t, lastDay, []int{36, 39, 41}, api.OK)
}

// P7.5: Of says a year and true exactly if the run in that year has the day.
func TestOfAgreesWithRun(t *testing.T) {
	for _, w := range someYears() {
		for code := 21; code <= 41; code++ {
			for _, day := range []int64{w.first, w.first + 14, w.last} {
				said, is, _ := Of(day, code)
				for y := w.y - 2; y <= w.y+2; y++ {
					r, err := Run(y, code)
					has := err == api.OK && r.Lo.Day <= day && day <= r.Hi.Day
					if has != (is && said == y) {
						t.Errorf("Of(%d, %d) = %d, %t; but the run in %d is %v, %d", day, code, said, is, y, r, err)
					}
				}
			}
		}
	}
}

// P7.5: quarters, thirds and halves have each day of their year once.
func TestPartsOfYears(t *testing.T) {
	for _, place := range places() {
		for i := 0; i < len(place); i += 12 {
			for _, codes := range [][]int{{33, 34, 35, 36}, {37, 38, 39}, {40, 41}} {
				next := place[i].first
				for _, code := range codes {
					r, err := Run(place[i].y, code)
					if r.Lo.Day != next || err != api.OK {
						t.Errorf("Run(%d, %d) = %v, %d; want it to begin at %d", place[i].y, code, r, err, next)
					}
					next = r.Hi.Day + 1
				}
				if last := place[i+11].last; next != last+1 {
					t.Errorf("the parts %v of %d end at %d; want %d", codes, place[i].y, next-1, last)
				}
			}
		}
	}
}

// P7.5: the seasons of a row follow each other, from one end of the calendar to
// the other one, and leave out only some days at its ends.
func TestSeasonsFollowEachOther(t *testing.T) {
	for _, codes := range [][]int{{21, 22, 23, 24}, {25, 26, 27, 28}, {31, 32, 29, 30}} {
		for _, place := range places() {
			next := place[0].last + place[1].last - place[1].first + 2
			for i := 0; i < len(place); i += 12 {
				for _, code := range codes {
					r, err := Run(place[i].y, code)
					if place[i].y == api.MaxYear && code == codes[3] {
						checkRun(t, api.MaxYear, code, api.Run{}, api.ErrYear)
						continue
					}
					if r.Lo.Day != next || err != api.OK {
						t.Errorf("Run(%d, %d) = %v, %d; want it to begin at %d", place[i].y, code, r, err, next)
					}
					next = r.Hi.Day + 1
				}
			}
		}
		checkRun(t, -api.MaxYear, codes[0], run(firstDay+31+29, firstDay+31+29+92-1), api.OK)
		checkRun(t, api.MaxYear, codes[2], run(lastDay-31-91+1, lastDay-31), api.OK)
	}
}

// P7.4: a result is new memory.
func TestCodesAreNew(t *testing.T) {
	one, _ := Codes(0)
	clear(one)
	checkCodes(t, 0, []int{24, 28, 30, 33, 37, 40}, api.OK)
}

// P7.1 to P7.4: the chapter's examples.
func TestExamples(t *testing.T) {
	checkMonths(t, 24, 12, 3, api.OK)
	checkMonths(t, 38, 5, 4, api.OK)
	checkMonths(t, 41, 7, 6, api.OK)
	checkMonths(t, 20, 0, 0, api.ErrMonth)
	checkRun(t, 2000, 21, run(730545, 730636), api.OK)
	checkRun(t, 1999, 24, run(730454, 730544), api.OK)
	checkRun(t, api.MaxYear, 24, api.Run{}, api.ErrYear)
	checkRun(t, api.MaxYear, 36, run(lastDay-91, lastDay), api.OK)
	checkOf(t, 730485, 24, 1999, true, api.OK)
	checkOf(t, 730485, 33, 2000, true, api.OK)
	checkOf(t, 730485, 21, 0, false, api.OK)
	checkCodes(t, 730485, []int{24, 28, 30, 33, 37, 40}, api.OK)
}
