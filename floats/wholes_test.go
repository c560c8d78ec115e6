package floats

import (
	"math"
	"math/big"
	"slices"
	"testing"

	"circa/api"
)

const (
	least    = math.MinInt64
	greatest = math.MaxInt64
)

// wholes are int64 numbers, ascending: those about 0, those about the powers of
// two and the places halfway between float64 numbers, and the ends.
func wholes() []int64 {
	l := []int64{least, least + 1, least + 1023, least + 1024, least + 1025, least + 2048, greatest, greatest - 1, greatest - 2}
	for d := int64(-3); d <= 3; d++ {
		l = append(l, d)
		for e := 2; e <= 62; e++ {
			p := int64(1) << e
			l = append(l, p+d, -p+d)
			// From 2^54 on float64 numbers are more than two apart.
			if e >= 54 {
				gap := int64(1) << (e - 52)
				l = append(l, p+gap/2+d, p+gap+d, -p-gap/2+d, -p-gap+d, p-gap/2+d, -p+gap/2+d, p+p/2+gap/2+d)
			}
		}
		if d <= 0 {
			for _, back := range []int64{511, 512, 1023, 1024, 1535} {
				l = append(l, greatest-back+d, -greatest+back-d)
			}
		}
	}
	for _, w := range scattered(500) {
		l = append(l, int64(w), int64(w)>>8, int64(w)>>40)
	}
	slices.Sort(l)
	return slices.Compact(l)
}

// near are finite numbers about the whole ones, and all others with a name.
func near() []float64 {
	var l []float64
	for _, x := range ascending() {
		if !math.IsInf(x, 0) {
			l = append(l, x)
		}
	}
	for _, n := range wholes() {
		x := float64(n)
		l = append(l, x, x+0.5, x-0.5, math.Nextafter(x, math.Inf(1)), math.Nextafter(x, math.Inf(-1)))
	}
	for _, w := range scattered(500) {
		if x := math.Float64frombits(w); !math.IsNaN(x) && !math.IsInf(x, 0) {
			l = append(l, x)
		}
	}
	return l
}

// rounded is the float64 beside n on one side, found with numbers of any size.
func rounded(n int64, mode big.RoundingMode) float64 {
	x, _ := new(big.Float).SetPrec(53).SetMode(mode).SetInt64(n).Float64()
	return x
}

// P2.3
func TestDownAndUp(t *testing.T) {
	for _, c := range []struct {
		n        int64
		down, up float64
	}{
		{0, 0, 0},
		{1, 1, 1},
		{-1, -1, -1},
		{7, 7, 7},
		{1<<53 - 1, 1<<53 - 1, 1<<53 - 1},
		{1 << 53, 1 << 53, 1 << 53},
		{1<<53 + 1, 1 << 53, 1<<53 + 2},
		{1<<53 + 2, 1<<53 + 2, 1<<53 + 2},
		{1<<53 + 3, 1<<53 + 2, 1<<53 + 4},
		{-1<<53 + 1, -1<<53 + 1, -1<<53 + 1},
		{-1 << 53, -1 << 53, -1 << 53},
		{-1<<53 - 1, -1<<53 - 2, -1 << 53},
		{-1<<53 - 3, -1<<53 - 4, -1<<53 - 2},
		{1 << 62, 1 << 62, 1 << 62},
		{1<<62 - 1, 1<<62 - 512, 1 << 62},
		{1<<62 + 1, 1 << 62, 1<<62 + 1024},
		{greatest - 1023, 1<<63 - 1024, 1<<63 - 1024},
		{greatest - 1022, 1<<63 - 1024, 1 << 63},
		{greatest, 1<<63 - 1024, 1 << 63},
		{least, -1 << 63, -1 << 63},
		{least + 1, -1 << 63, -1<<63 + 1024},
		{least + 1024, -1<<63 + 1024, -1<<63 + 1024},
	} {
		if down, up := Down(c.n), Up(c.n); !same(down, c.down) || !same(up, c.up) {
			t.Errorf("Down(%d) = %f, Up = %f; want %f, %f", c.n, down, up, c.down, c.up)
		}
		if exact := Exact(c.n); exact != (c.down == c.up) {
			t.Errorf("Exact(%d) = %t", c.n, exact)
		}
	}
}

// P2.3
func TestDownAndUpAreExact(t *testing.T) {
	for _, n := range wholes() {
		down, up := rounded(n, big.ToNegativeInf), rounded(n, big.ToPositiveInf)
		if got := Down(n); !same(got, down) {
			t.Errorf("Down(%d) = %f; want %f", n, got, down)
		}
		if got := Up(n); !same(got, up) {
			t.Errorf("Up(%d) = %f; want %f", n, got, up)
		}
		if got := Exact(n); got != (down == up) {
			t.Errorf("Exact(%d) = %t; want %t", n, got, down == up)
		}
	}
}

type rounding func(x float64) (int64, api.Errno)

func checkRounding(t *testing.T, name string, f rounding, x float64, want int64, wantErr api.Errno) {
	t.Helper()
	if n, err := f(x); n != want || err != wantErr {
		t.Errorf("%s(%x) = %d, %d; want %d, %d", name, x, n, err, want, wantErr)
	}
}

// P2.4
func TestFloorAndCeil(t *testing.T) {
	for _, c := range []struct {
		x           float64
		floor, ceil int64
	}{
		{0, 0, 0},
		{minusZero, 0, 0},
		{4, 4, 4},
		{-4, -4, -4},
		{2.5, 2, 3},
		{-2.5, -3, -2},
		{0.5, 0, 1},
		{-0.5, -1, 0},
		{0.999, 0, 1},
		{-0.999, -1, 0},
		{math.SmallestNonzeroFloat64, 0, 1},
		{-math.SmallestNonzeroFloat64, -1, 0},
		{1<<51 + 0.5, 1 << 51, 1<<51 + 1},
		{-1<<51 - 0.5, -1<<51 - 1, -1 << 51},
		{1 << 53, 1 << 53, 1 << 53},
		{1<<63 - 1024, greatest - 1023, greatest - 1023},
		{-1<<63 + 1024, least + 1024, least + 1024},
		{-1 << 63, least, least},
	} {
		checkRounding(t, "Floor", Floor, c.x, c.floor, api.OK)
		checkRounding(t, "Ceil", Ceil, c.x, c.ceil, api.OK)
	}
}

// P2.4
func TestFloorAndCeilRefuse(t *testing.T) {
	for _, x := range nans() {
		checkRounding(t, "Floor", Floor, x, 0, api.ErrArg)
		checkRounding(t, "Ceil", Ceil, x, 0, api.ErrArg)
	}
	for _, x := range []float64{
		math.Inf(1), math.Inf(-1), math.MaxFloat64, -math.MaxFloat64,
		1 << 63, 1<<63 + 2048, 1 << 64, -1<<63 - 2048, -1 << 64, 1e300, -1e300,
	} {
		checkRounding(t, "Floor", Floor, x, 0, api.ErrOverflow)
		checkRounding(t, "Ceil", Ceil, x, 0, api.ErrOverflow)
	}
}

// fit returns what a call must answer for a whole number of any size.
func fit(n *big.Int) (int64, api.Errno) {
	if !n.IsInt64() {
		return 0, api.ErrOverflow
	}
	return n.Int64(), api.OK
}

// P2.4
func TestFloorAndCeilAreExact(t *testing.T) {
	for _, x := range near() {
		r := new(big.Rat).SetFloat64(x)
		// Div rounds down, as the denominator is positive.
		floor := new(big.Int).Div(r.Num(), r.Denom())
		ceil := new(big.Int).Set(floor)
		if !r.IsInt() {
			ceil.Add(ceil, big.NewInt(1))
		}
		want, err := fit(floor)
		checkRounding(t, "Floor", Floor, x, want, err)
		want, err = fit(ceil)
		checkRounding(t, "Ceil", Ceil, x, want, err)
	}
}

// P2.5
func TestCmp(t *testing.T) {
	for _, c := range []struct {
		x    float64
		n    int64
		want int
	}{
		{7, 7, 0},
		{7, 8, -1},
		{7, 6, 1},
		{-7, -7, 0},
		{-7, -6, -1},
		{0.5, 0, 1},
		{0.5, 1, -1},
		{-0.5, 0, -1},
		{-0.5, -1, 1},
		{0, 0, 0},
		{minusZero, 0, 0},
		{minusZero, 1, -1},
		{minusZero, -1, 1},
		{math.SmallestNonzeroFloat64, 0, 1},
		{-math.SmallestNonzeroFloat64, 0, -1},
		{1 << 53, 1<<53 + 1, -1},
		{1<<53 + 2, 1<<53 + 1, 1},
		{1 << 53, 1 << 53, 0},
		{-1 << 53, -1<<53 - 1, 1},
		{1 << 63, greatest, 1},
		{1<<63 - 1024, greatest, -1},
		{1<<63 - 1024, greatest - 1023, 0},
		{-1 << 63, least, 0},
		{-1 << 63, least + 1, -1},
		{-1<<63 - 2048, least, -1},
		{-1 << 63, greatest, -1},
		{math.MaxFloat64, greatest, 1},
		{-math.MaxFloat64, least, -1},
		{math.Inf(1), greatest, 1},
		{math.Inf(1), least, 1},
		{math.Inf(-1), least, -1},
		{math.Inf(-1), greatest, -1},
	} {
		if got, err := Cmp(c.x, c.n); got != c.want || err != api.OK {
			t.Errorf("Cmp(%x, %d) = %d, %d; want %d", c.x, c.n, got, err, c.want)
		}
	}
}

// P2.5
func TestCmpRefusesNaN(t *testing.T) {
	for _, x := range nans() {
		for _, n := range []int64{least, -1, 0, 1, greatest} {
			if got, err := Cmp(x, n); got != 0 || err != api.ErrArg {
				t.Errorf("Cmp(NaN, %d) = %d, %d; want ErrArg", n, got, err)
			}
		}
	}
}

// P2.5: about each number, and far from it.
func TestCmpIsExact(t *testing.T) {
	for _, n := range wholes() {
		l := append(ascending(), float64(n), float64(n)+0.5, float64(n)-0.5,
			math.Nextafter(float64(n), math.Inf(1)), math.Nextafter(float64(n), math.Inf(-1)))
		for _, x := range l {
			want := new(big.Float).SetFloat64(x).Cmp(new(big.Float).SetInt64(n))
			if got, err := Cmp(x, n); got != want || err != api.OK {
				t.Fatalf("Cmp(%x, %d) = %d, %d; want %d", x, n, got, err, want)
			}
		}
	}
}

// P2.6: Down is at most Up, and is that, or the one ahead of it.
func TestDownIsUpOrAheadOfIt(t *testing.T) {
	for _, n := range wholes() {
		down, up := Down(n), Up(n)
		if Exact(n) != (Order(down, up) == 0) {
			t.Errorf("Exact(%d) = %t, Down = %f, Up = %f", n, Exact(n), down, up)
		}
		if Exact(n) {
			continue
		}
		checkStep(t, "Next", Next, down, up, api.OK)
		low, err := Cmp(down, n)
		high, err2 := Cmp(up, n)
		if low != -1 || high != 1 || err != api.OK || err2 != api.OK {
			t.Errorf("%d is not between %f and %f", n, down, up)
		}
	}
}

// P2.6: the Floor of Down(n) is n exactly if n is exact.
func TestFloorOfDown(t *testing.T) {
	for _, n := range wholes() {
		floor, err := Floor(Down(n))
		if err != api.OK || (floor == n) != Exact(n) {
			t.Errorf("Floor(Down(%d)) = %d, %d; Exact = %t", n, floor, err, Exact(n))
		}
	}
}

// P2.6: a greater n has no lesser Down and Up.
func TestDownAndUpKeepTheOrder(t *testing.T) {
	l := wholes()
	for i, n := range l[1:] {
		if Order(Down(l[i]), Down(n)) > 0 || Order(Up(l[i]), Up(n)) > 0 {
			t.Errorf("Down or Up of %d is above that of %d", l[i], n)
		}
	}
}
