package floats

import (
	"math"
	"testing"

	"circa/api"
)

var minusZero = math.Copysign(0, -1)

// ascending are numbers in the total order, without NaN: the edges of each of
// its parts, and pairs of neighbours.
func ascending() []float64 {
	positive := []float64{
		math.SmallestNonzeroFloat64, 2 * math.SmallestNonzeroFloat64,
		0x1p-1022 - 0x1p-1074, 0x1p-1022, 0x1p-1022 + 0x1p-1074,
		0.1, 0.5, 1 - 0x1p-53, 1, 1 + 0x1p-52, 1.5, 2, 10,
		1<<53 - 1, 1 << 53, 1<<53 + 2, 1<<63 - 1024, 1 << 63, 1<<63 + 2048, 1 << 64,
		math.MaxFloat64 - 0x1p970, math.MaxFloat64, math.Inf(1),
	}
	var l []float64
	for i := len(positive) - 1; i >= 0; i-- {
		l = append(l, -positive[i])
	}
	return append(append(l, minusZero, 0), positive...)
}

// nans are NaN with other bits: signs, quiet and signalling, the least and the
// greatest payload.
func nans() []float64 {
	l := []float64{math.NaN(), -math.NaN()}
	for _, bits := range []uint64{
		0x7FF0_0000_0000_0001, 0x7FF7_FFFF_FFFF_FFFF, 0x7FF8_0000_0000_0000, 0x7FFF_FFFF_FFFF_FFFF,
		0xFFF0_0000_0000_0001, 0xFFF7_FFFF_FFFF_FFFF, 0xFFF8_0000_0000_0000, 0xFFFF_FFFF_FFFF_FFFF,
	} {
		l = append(l, math.Float64frombits(bits))
	}
	return l
}

// scattered are words whose bits follow no pattern, the same ones at each call.
func scattered(count int) []uint64 {
	l := make([]uint64, count)
	w := uint64(0x9E3779B97F4A7C15)
	for i := range l {
		w ^= w << 13
		w ^= w >> 7
		w ^= w << 17
		l[i] = w
	}
	return l
}

// same tells apart what == does not: -0 and +0.
func same(a, b float64) bool { return math.Float64bits(a) == math.Float64bits(b) }

type stepping func(x float64) (float64, api.Errno)

func checkStep(t *testing.T, name string, f stepping, x, want float64, wantErr api.Errno) {
	t.Helper()
	if y, err := f(x); !same(y, want) || err != wantErr {
		t.Errorf("%s(%x) = %x, %d; want %x, %d", name, x, y, err, want, wantErr)
	}
}

// P2.1
func TestOrder(t *testing.T) {
	for _, c := range []struct {
		a, b float64
		want int
	}{
		{1, 1, 0},
		{1, 2, -1},
		{2, 1, 1},
		{-1, -2, 1},
		{-2, -1, -1},
		{-1, 1, -1},
		{minusZero, 0, -1},
		{0, minusZero, 1},
		{minusZero, minusZero, 0},
		{0, 0, 0},
		{-math.SmallestNonzeroFloat64, minusZero, -1},
		{math.SmallestNonzeroFloat64, 0, 1},
		{math.Inf(1), math.MaxFloat64, 1},
		{math.Inf(-1), -math.MaxFloat64, -1},
		{math.Inf(1), math.Inf(1), 0},
		{math.Inf(-1), math.Inf(-1), 0},
		{math.NaN(), math.Inf(1), 1},
		{math.Inf(1), math.NaN(), -1},
		{math.Inf(-1), math.NaN(), -1},
	} {
		if got := Order(c.a, c.b); got != c.want {
			t.Errorf("Order(%v, %v) = %d; want %d", c.a, c.b, got, c.want)
		}
	}
}

// P2.1, P2.6: what holds of all pairs of a list that ascends is a total order.
func TestOrderIsTotal(t *testing.T) {
	l := ascending()
	for i, a := range l {
		for j, b := range l {
			want := 0
			switch {
			case i < j:
				want = -1
			case i > j:
				want = 1
			}
			if got := Order(a, b); got != want {
				t.Errorf("Order(%x, %x) = %d; want %d", a, b, got, want)
			}
		}
	}
}

// P2.1, P2.6: NaN stands behind all others, and each is like the others.
func TestOrderOfNaN(t *testing.T) {
	for _, a := range nans() {
		for _, b := range nans() {
			if got := Order(a, b); got != 0 {
				t.Errorf("Order(NaN %x, NaN %x) = %d", math.Float64bits(a), math.Float64bits(b), got)
			}
		}
		for _, x := range ascending() {
			if got := Order(a, x); got != 1 {
				t.Errorf("Order(NaN %x, %x) = %d", math.Float64bits(a), x, got)
			}
			if got := Order(x, a); got != -1 {
				t.Errorf("Order(%x, NaN %x) = %d", x, math.Float64bits(a), got)
			}
		}
	}
}

// P2.1, P2.6: Order agrees with <, and with the bits where < says nothing.
func TestOrderOfAnyBits(t *testing.T) {
	words := scattered(4001)
	for i := range 4000 {
		a, b := math.Float64frombits(words[i]), math.Float64frombits(words[i+1])
		if math.IsNaN(a) || math.IsNaN(b) {
			continue
		}
		want := 0
		switch {
		case a < b:
			want = -1
		case a > b:
			want = 1
		}
		if got, back := Order(a, b), Order(b, a); got != want || back != -want || Order(a, a) != 0 {
			t.Fatalf("Order(%x, %x) = %d, and %d the other way round; want %d", a, b, got, back, want)
		}
	}
}

// P2.2
func TestNext(t *testing.T) {
	for _, c := range []struct {
		x, want float64
		err     api.Errno
	}{
		{1, 1 + 0x1p-52, api.OK},
		{-1, -1 + 0x1p-53, api.OK},
		{minusZero, 0, api.OK},
		{0, math.SmallestNonzeroFloat64, api.OK},
		{-math.SmallestNonzeroFloat64, minusZero, api.OK},
		{0x1p-1022 - 0x1p-1074, 0x1p-1022, api.OK},
		{1 << 53, 1<<53 + 2, api.OK},
		{math.MaxFloat64, math.Inf(1), api.OK},
		{math.Inf(-1), -math.MaxFloat64, api.OK},
		{math.Inf(1), 0, api.ErrNone},
	} {
		checkStep(t, "Next", Next, c.x, c.want, c.err)
	}
	for _, x := range nans() {
		checkStep(t, "Next", Next, x, 0, api.ErrNone)
	}
}

// P2.2
func TestPrev(t *testing.T) {
	for _, c := range []struct {
		x, want float64
		err     api.Errno
	}{
		{1, 1 - 0x1p-53, api.OK},
		{-1, -1 - 0x1p-52, api.OK},
		{0, minusZero, api.OK},
		{minusZero, -math.SmallestNonzeroFloat64, api.OK},
		{math.SmallestNonzeroFloat64, 0, api.OK},
		{0x1p-1022, 0x1p-1022 - 0x1p-1074, api.OK},
		{1<<53 + 2, 1 << 53, api.OK},
		{-math.MaxFloat64, math.Inf(-1), api.OK},
		{math.Inf(1), math.MaxFloat64, api.OK},
		{math.Inf(-1), 0, api.ErrNone},
	} {
		checkStep(t, "Prev", Prev, c.x, c.want, c.err)
	}
	for _, x := range nans() {
		checkStep(t, "Prev", Prev, x, 0, api.ErrNone)
	}
}

// P2.2: where no zero is near, nothing is between the neighbours that the
// library knows.
func TestStepsAreThoseOfTheLibrary(t *testing.T) {
	for _, bits := range scattered(4000) {
		x := math.Float64frombits(bits)
		if math.IsNaN(x) {
			continue
		}
		checkStep(t, "Next", Next, x, math.Nextafter(x, math.Inf(1)), api.OK)
		checkStep(t, "Prev", Prev, x, math.Nextafter(x, math.Inf(-1)), api.OK)
	}
}

// P2.2, P2.6: Prev inverts Next, and Next inverts Prev; each goes one way.
func TestPrevInvertsNext(t *testing.T) {
	l := ascending()
	for _, bits := range scattered(1000) {
		l = append(l, math.Float64frombits(bits))
	}
	for _, x := range l {
		if next, err := Next(x); err == api.OK {
			checkStep(t, "Prev", Prev, next, x, api.OK)
			if Order(x, next) != -1 {
				t.Errorf("Next(%x) = %x is not behind it", x, next)
			}
		}
		if prev, err := Prev(x); err == api.OK {
			checkStep(t, "Next", Next, prev, x, api.OK)
			if Order(prev, x) != -1 {
				t.Errorf("Prev(%x) = %x is not ahead of it", x, prev)
			}
		}
	}
}
