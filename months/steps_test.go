package months

import (
	"math"
	"math/big"
	"testing"

	"circa/api"
)

// monthsOfCalendar is how many steps it is from the first month of the calendar
// to the last one.
const monthsOfCalendar = 24*api.MaxYear + 11

func checkAdd(t *testing.T, from pair, k int64, want pair, refused api.Errno) {
	if z, n, err := Add(from.y, from.m, k); z != want.y || n != want.m || err != refused {
		t.Helper()
		t.Errorf("Add(%d, %d, %d) = %d, %d, %d; want %d, %d, %d", from.y, from.m, k, z, n, err, want.y, want.m, refused)
	}
}

func checkBetween(t *testing.T, from, to pair, want int64, refused api.Errno) {
	if k, err := Between(from.y, from.m, to.y, to.m); k != want || err != refused {
		t.Helper()
		t.Errorf("Between(%d, %d, %d, %d) = %d, %d; want %d, %d", from.y, from.m, to.y, to.m, k, err, want, refused)
	}
}

// P5.4, P5.5, P5.6: all pairs of months of a few years, counted in a list.
func TestStepsBesideZero(t *testing.T) {
	l := walk(-10, 0, 20)
	for i, from := range l {
		for j, to := range l {
			a, b, k := pair{from.y, from.m}, pair{to.y, to.m}, int64(j-i)
			checkAdd(t, a, k, b, api.OK)
			checkBetween(t, a, b, k, api.OK)
		}
	}
}

// places are months in the middle of the calendar, at its ends, and beside them.
func places() []pair {
	l := []pair{}
	for _, y := range []int64{
		0, 1, -1, 1999, 2000, -401, api.MaxYear / 2, -api.MaxYear / 3,
		api.MaxYear, api.MaxYear - 1, -api.MaxYear, -api.MaxYear + 1,
	} {
		for _, m := range []int{1, 2, 6, 7, 11, 12} {
			l = append(l, pair{y, m})
		}
	}
	return l
}

// steps are numbers of months: few, up to both ends of the calendar and just
// beyond them, and those that no index is far from.
func steps() []int64 {
	l := []int64{}
	for _, k := range []int64{
		0, 100, 400 * 12, 12 * api.MaxYear, 12 * (api.MaxYear - 1), 6 * api.MaxYear, 12*api.MaxYear + 12,
		monthsOfCalendar, monthsOfCalendar - 11, 1 << 40, 1 << 62, 7 * api.MaxYear,
	} {
		for d := int64(-13); d <= 13; d++ {
			l = append(l, k+d, -k+d)
		}
	}
	for d := range int64(14) {
		l = append(l, math.MaxInt64-d, math.MinInt64+d, math.MaxInt64-12*api.MaxYear-d, math.MinInt64+12*api.MaxYear+d)
	}
	return l
}

// onBy returns the month k months on, reckoned with numbers of any size.
func onBy(from pair, k int64) (pair, api.Errno) {
	i := new(big.Int).Mul(big.NewInt(from.y), big.NewInt(12))
	i.Add(i, big.NewInt(int64(from.m)-1)).Add(i, big.NewInt(k))
	year, rest := new(big.Int).DivMod(i, big.NewInt(12), new(big.Int))
	if year.CmpAbs(big.NewInt(api.MaxYear)) > 0 {
		return pair{}, api.ErrYear
	}
	return pair{year.Int64(), int(rest.Int64()) + 1}, api.OK
}

// P5.4, P5.5, P5.6: against numbers of any size, and Between inverts Add.
func TestStepsFarAway(t *testing.T) {
	for _, from := range places() {
		for _, k := range steps() {
			to, refused := onBy(from, k)
			checkAdd(t, from, k, to, refused)
			if refused == api.OK {
				checkBetween(t, from, to, k, api.OK)
				checkBetween(t, to, from, -k, api.OK)
			}
		}
	}
}

// P5.6: Add inverts Between, up to the whole calendar.
func TestAddInvertsBetween(t *testing.T) {
	for _, from := range places() {
		for _, to := range places() {
			k, err := Between(from.y, from.m, to.y, to.m)
			if err != api.OK {
				t.Errorf("Between(%v, %v): %d", from, to, err)
			}
			checkAdd(t, from, k, to, api.OK)
		}
	}
	checkBetween(t, pair{-api.MaxYear, 1}, pair{api.MaxYear, 12}, monthsOfCalendar, api.OK)
	checkBetween(t, pair{api.MaxYear, 12}, pair{-api.MaxYear, 1}, -monthsOfCalendar, api.OK)
}

// P5.4: the error of Check comes first, whether or not there is a month.
func TestAddRefuses(t *testing.T) {
	for from, want := range faults() {
		for _, k := range []int64{0, 1, -1, math.MaxInt64, math.MinInt64, -12 * from.y, -from.y} {
			checkAdd(t, from, k, pair{}, want)
		}
	}
}

// P5.5: the error of the first month, then that of the second one.
func TestBetweenRefuses(t *testing.T) {
	right := []pair{{0, 1}, {2000, 12}, {api.MaxYear, 12}, {-api.MaxYear, 1}}
	for wrong, want := range faults() {
		for _, p := range right {
			checkBetween(t, wrong, p, 0, want)
			checkBetween(t, p, wrong, 0, want)
		}
	}
	noYear, noMonth := pair{api.MaxYear + 1, 1}, pair{1, 13}
	checkBetween(t, noYear, noMonth, 0, api.ErrYear)
	checkBetween(t, noMonth, noYear, 0, api.ErrMonth)
}
