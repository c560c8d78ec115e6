package runs

import (
	"math"
	"slices"
	"testing"

	"circa/api"
)

func checkLen(t *testing.T, r api.Run, want int64, refused api.Errno) {
	if n, err := Len(r); n != want || err != refused {
		t.Helper()
		t.Errorf("Len(%v) = %d, %d; want %d, %d", r, n, err, want, refused)
	}
}

func checkShift(t *testing.T, r api.Run, k int64, want api.Run, refused api.Errno) {
	if moved, err := Shift(r, k); moved != want || err != refused {
		t.Helper()
		t.Errorf("Shift(%v, %d) = %v, %d; want %v, %d", r, k, moved, err, want, refused)
	}
}

func checkOf(t *testing.T, lo, hi int64, want api.Run, refused api.Errno) {
	if r, err := Of(lo, hi); r != want || err != refused {
		t.Helper()
		t.Errorf("Of(%d, %d) = %v, %d; want %v, %d", lo, hi, r, err, want, refused)
	}
}

// checkPair holds what two runs have to do with each other against what it must
// be. No run is the zero run.
func checkPair(t *testing.T, a, b, join, common api.Run, touch, meet, within bool) {
	if got := Touch(a, b); got != touch {
		t.Helper()
		t.Errorf("Touch(%v, %v) = %t", a, b, got)
	}
	if r, is := Join(a, b); r != join || is != touch {
		t.Helper()
		t.Errorf("Join(%v, %v) = %v, %t; want %v, %t", a, b, r, is, join, touch)
	}
	if r, is := Common(a, b); r != common || is != meet {
		t.Helper()
		t.Errorf("Common(%v, %v) = %v, %t; want %v, %t", a, b, r, is, common, meet)
	}
	if got := Within(a, b); got != within {
		t.Helper()
		t.Errorf("Within(%v, %v) = %t", a, b, got)
	}
}

// P9.1: of all pairs of ends, right ones and others, in this order: ErrForm,
// ErrRange, ErrOrder.
func TestCheck(t *testing.T) {
	for _, r := range someRuns() {
		if err := Check(r); err != flaw(r) {
			t.Errorf("Check(%v) = %d; want %d", r, err, flaw(r))
		}
	}
	for _, s := range spans() {
		if err := Check(s.run); err != api.OK {
			t.Errorf("Check(%v) = %d", s.run, err)
		}
	}
}

// P9.1: several errors at once.
func TestCheckOrder(t *testing.T) {
	for r, want := range map[api.Run]api.Errno{
		{Lo: high, Hi: api.End{Inf: 2}}:               api.ErrForm,
		{Lo: api.End{Inf: -2}, Hi: low}:               api.ErrForm,
		{Lo: api.End{Inf: 1, Day: 1}, Hi: low}:        api.ErrForm,
		{Lo: day(5), Hi: api.End{Inf: -1, Day: 4}}:    api.ErrForm,
		{Lo: high, Hi: low}:                           api.ErrRange,
		{Lo: high, Hi: day(3)}:                        api.ErrRange,
		{Lo: day(3), Hi: low}:                         api.ErrRange,
		{Lo: high, Hi: high}:                          api.ErrRange,
		{Lo: low, Hi: low}:                            api.ErrRange,
		{Lo: day(math.MaxInt64), Hi: day(-1 << 63)}:   api.ErrOrder,
		{Lo: day(1), Hi: day(0)}:                      api.ErrOrder,
		{Lo: low, Hi: high}:                           api.OK,
		{Lo: low, Hi: day(math.MinInt64)}:             api.OK,
		{Lo: day(math.MaxInt64), Hi: high}:            api.OK,
		{Lo: day(math.MinInt64), Hi: day(-1 << 63)}:   api.OK,
		{Lo: day(math.MinInt64), Hi: day(1<<63 - 1)}:  api.OK,
		{Lo: day(math.MaxInt64), Hi: day(1<<63 - 1)}:  api.OK,
		{Lo: day(0), Hi: api.End{Inf: 1, Day: -1}}:    api.ErrForm,
		{Lo: api.End{Inf: math.MinInt8}, Hi: day(7)}:  api.ErrForm,
		{Lo: day(-7), Hi: api.End{Inf: math.MaxInt8}}: api.ErrForm,
	} {
		if err := Check(r); err != want {
			t.Errorf("Check(%v) = %d; want %d", r, err, want)
		}
	}
}

// P9.1
func TestOf(t *testing.T) {
	numbers := []int64{math.MinInt64, math.MinInt64 + 1, -1 << 32, -3, -1, 0, 1, 2, 1 << 32, math.MaxInt64 - 1, math.MaxInt64}
	for i, lo := range numbers {
		for j, hi := range numbers {
			if i <= j {
				checkOf(t, lo, hi, days(lo, hi), api.OK)
			} else {
				checkOf(t, lo, hi, api.Run{}, api.ErrOrder)
			}
		}
	}
}

// P9.2: of all runs between places of a line, and all its days.
func TestHas(t *testing.T) {
	for _, s := range spans() {
		for i, p := range line() {
			if !p.gap && p.end.Inf == 0 && Has(s.run, p.end.Day) != s.covers[i] {
				t.Errorf("Has(%v, %d) = %t", s.run, p.end.Day, !s.covers[i])
			}
		}
	}
}

// P9.2, P9.3: of all pairs of runs between places of a line: what they have in
// common, what they cover together, and whether they leave a place out.
func TestPairs(t *testing.T) {
	for _, a := range spans() {
		for _, b := range spans() {
			join, touch := runOver(combine(a.covers, b.covers, func(x, y bool) bool { return x || y }))
			common, meet := runOver(combine(a.covers, b.covers, func(x, y bool) bool { return x && y }))
			beyond := slices.Contains(combine(a.covers, b.covers, func(x, y bool) bool { return x && !y }), true)
			checkPair(t, a.run, b.run, join, common, touch, meet, !beyond)
		}
	}
}

// P9.2, P9.3: a run that is not right has no days, and has nothing to do with
// any run, also not with itself.
func TestPairsOfNoRuns(t *testing.T) {
	for _, a := range noRuns() {
		for _, n := range []int64{math.MinInt64, -7, 0, 1, 5, math.MaxInt64} {
			if Has(a, n) {
				t.Errorf("Has(%v, %d)", a, n)
			}
		}
		others := []api.Run{a, {}, {Lo: low, Hi: high}, {Lo: a.Lo, Hi: a.Lo}, {Lo: a.Hi, Hi: a.Hi}, days(-7, 5), {Lo: low, Hi: day(0)}, {Lo: day(0), Hi: high}}
		for _, b := range others {
			checkPair(t, a, b, api.Run{}, api.Run{}, false, false, false)
			checkPair(t, b, a, api.Run{}, api.Run{}, false, false, false)
		}
	}
}

// P9.2, P9.3: the ends of the range: no day is behind the greatest int64 and
// ahead of infinity, and yet infinity is behind it.
func TestPairsAtTheEnds(t *testing.T) {
	all := api.Run{Lo: low, Hi: high}
	finite := days(math.MinInt64, math.MaxInt64)
	late, never := days(0, math.MaxInt64), api.Run{Lo: day(0), Hi: high}
	checkPair(t, never, late, never, late, true, true, false)
	checkPair(t, late, never, never, late, true, true, true)
	checkPair(t, all, finite, all, finite, true, true, false)
	checkPair(t, finite, all, all, finite, true, true, true)
	first, last := days(math.MinInt64, math.MinInt64), days(math.MaxInt64, math.MaxInt64)
	checkPair(t, last, first, api.Run{}, api.Run{}, false, false, false)
	checkPair(t, first, last, api.Run{}, api.Run{}, false, false, false)
	checkPair(t, api.Run{Lo: low, Hi: first.Hi}, api.Run{Lo: last.Lo, Hi: high}, api.Run{}, api.Run{}, false, false, false)
	checkPair(t, api.Run{Lo: low, Hi: day(-1)}, never, all, api.Run{}, true, false, false)
	checkPair(t, api.Run{Lo: low, Hi: day(-2)}, never, api.Run{}, api.Run{}, false, false, false)
	checkPair(t, api.Run{Lo: low, Hi: day(0)}, never, all, api.Run{}, true, true, false)
}

// P9.4: runs compare as they stand in order, right ones and others.
func TestCompare(t *testing.T) {
	right := []api.Run{}
	for _, s := range spans() {
		right = append(right, s.run)
	}
	for _, l := range [][]api.Run{right, someRuns()} {
		for i, a := range l {
			for j, b := range l {
				want := 0
				if i != j {
					want = (i - j) / max(i-j, j-i)
				}
				if got := Compare(a, b); got != want {
					t.Fatalf("Compare(%v, %v) = %d; want %d", a, b, got, want)
				}
			}
		}
	}
}

// P9.5: right runs and others.
func TestLen(t *testing.T) {
	l := someRuns()
	for _, s := range spans() {
		l = append(l, s.run)
	}
	for _, r := range l {
		want, refused := length(r)
		checkLen(t, r, want, refused)
	}
}

// P9.5: the longest runs that have a length, and those one day longer.
func TestLenOverflow(t *testing.T) {
	for _, lo := range []int64{math.MinInt64, math.MinInt64 + 1, -1 << 62, -1000, -2} {
		checkLen(t, days(lo, lo+math.MaxInt64-1), math.MaxInt64, api.OK)
		checkLen(t, days(lo, lo+math.MaxInt64), 0, api.ErrOverflow)
	}
	checkLen(t, days(1, math.MaxInt64), math.MaxInt64, api.OK)
	checkLen(t, days(0, math.MaxInt64), 0, api.ErrOverflow)
	checkLen(t, days(math.MinInt64, math.MaxInt64), 0, api.ErrOverflow)
	checkLen(t, api.Run{Lo: low, Hi: day(math.MaxInt64)}, 0, api.ErrNone)
	checkLen(t, api.Run{Lo: day(math.MinInt64), Hi: high}, 0, api.ErrNone)
	checkLen(t, api.Run{Lo: low, Hi: high}, 0, api.ErrNone)
}

// P9.6, P9.8: right runs and others; Shift back leads back.
func TestShift(t *testing.T) {
	l := someRuns()
	for _, s := range spans() {
		l = append(l, s.run)
	}
	steps := []int64{math.MinInt64, math.MinInt64 + 1, -1 << 62, -1000, -2, -1, 0, 1, 2, 1000, 1 << 62, math.MaxInt64 - 1, math.MaxInt64}
	for _, r := range l {
		for _, k := range steps {
			want, refused := shifted(r, k)
			checkShift(t, r, k, want, refused)
			if refused == api.OK && k != math.MinInt64 {
				checkShift(t, want, -k, r, api.OK)
			}
		}
	}
}

// P9.6: a day that does not fit on one side only, and infinite ends.
func TestShiftAtTheEnds(t *testing.T) {
	checkShift(t, days(math.MinInt64, 0), -1, api.Run{}, api.ErrOverflow)
	checkShift(t, days(0, math.MaxInt64), 1, api.Run{}, api.ErrOverflow)
	checkShift(t, days(0, math.MaxInt64), math.MinInt64, days(math.MinInt64, -1), api.OK)
	checkShift(t, days(math.MinInt64, 0), math.MaxInt64, days(-1, math.MaxInt64), api.OK)
	checkShift(t, api.Run{Lo: low, Hi: day(math.MaxInt64)}, 1, api.Run{}, api.ErrOverflow)
	checkShift(t, api.Run{Lo: day(math.MinInt64), Hi: high}, -1, api.Run{}, api.ErrOverflow)
	for _, k := range []int64{math.MinInt64, -1, 0, 1, math.MaxInt64} {
		checkShift(t, api.Run{Lo: low, Hi: high}, k, api.Run{Lo: low, Hi: high}, api.OK)
	}
	checkShift(t, api.Run{Lo: low, Hi: day(-5)}, 10, api.Run{Lo: low, Hi: day(5)}, api.OK)
}

// P9.8: Touch, Join and Common do not depend on the order of their arguments;
// a run joined with one within it is the run; Common is within both.
func TestConsequences(t *testing.T) {
	for _, x := range spans() {
		for _, y := range spans() {
			a, b := x.run, y.run
			join, touch := Join(a, b)
			common, meet := Common(a, b)
			checkPair(t, b, a, join, common, touch, meet, Within(b, a))
			if Within(b, a) && (join != a || common != b) {
				t.Errorf("%v is within %v: Join %v, Common %v", b, a, join, common)
			}
			if meet && !(Within(common, a) && Within(common, b)) {
				t.Errorf("Common(%v, %v) = %v", a, b, common)
			}
			if touch && !(Within(a, join) && Within(b, join)) {
				t.Errorf("Join(%v, %v) = %v", a, b, join)
			}
		}
	}
}
