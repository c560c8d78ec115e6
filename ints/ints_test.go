package ints

import (
	"math"
	"math/big"
	"testing"

	"circa/api"
)

const (
	least    = math.MinInt64
	greatest = math.MaxInt64
)

type operation func(a, b int64) (int64, api.Errno)

type binaryCase struct {
	a, b int64
	want int64
	err  api.Errno
}

// edges are the numbers at which signs, words and the range change.
func edges() []int64 {
	l := []int64{least, greatest, 0}
	for _, n := range []int64{least + 1, greatest - 1, -1 << 62, 1 << 62, 3037000499, 3037000500, 1 << 31, 1 << 32, 1 << 33} {
		l = append(l, n, -n)
	}
	for n := int64(1); n <= 12; n++ {
		l = append(l, n, -n)
	}
	p := int64(1)
	for range 18 {
		p *= 10
		l = append(l, p, -p, p-1, 1-p)
	}
	return l
}

func checkCases(t *testing.T, name string, f operation, cases []binaryCase) {
	t.Helper()
	for _, c := range cases {
		if n, err := f(c.a, c.b); n != c.want || err != c.err {
			t.Errorf("%s(%d, %d) = %d, %d; want %d, %d", name, c.a, c.b, n, err, c.want, c.err)
		}
	}
}

// checkExact holds an operation against numbers of any size, at all pairs of
// edges; exact returns nil where the operation must answer refused.
func checkExact(t *testing.T, name string, f operation, refused api.Errno, exact func(a, b *big.Int) *big.Int) {
	t.Helper()
	for _, a := range edges() {
		for _, b := range edges() {
			var want int64
			var wantErr api.Errno
			switch x := exact(big.NewInt(a), big.NewInt(b)); {
			case x == nil:
				wantErr = refused
			case !x.IsInt64():
				wantErr = api.ErrOverflow
			default:
				want = x.Int64()
			}
			if n, err := f(a, b); n != want || err != wantErr {
				t.Fatalf("%s(%d, %d) = %d, %d; want %d, %d", name, a, b, n, err, want, wantErr)
			}
		}
	}
}

// P1.1
func TestAdd(t *testing.T) {
	checkCases(t, "Add", Add, []binaryCase{
		{2, 3, 5, api.OK},
		{-2, -3, -5, api.OK},
		{0, 0, 0, api.OK},
		{greatest, 0, greatest, api.OK},
		{greatest, 1, 0, api.ErrOverflow},
		{1, greatest, 0, api.ErrOverflow},
		{greatest, greatest, 0, api.ErrOverflow},
		{greatest, least, -1, api.OK},
		{least, 0, least, api.OK},
		{least, -1, 0, api.ErrOverflow},
		{-1, least, 0, api.ErrOverflow},
		{least, least, 0, api.ErrOverflow},
	})
	checkExact(t, "Add", Add, api.OK, func(a, b *big.Int) *big.Int { return a.Add(a, b) })
}

// P1.1
func TestSub(t *testing.T) {
	checkCases(t, "Sub", Sub, []binaryCase{
		{2, 3, -1, api.OK},
		{3, -2, 5, api.OK},
		{least, 1, 0, api.ErrOverflow},
		{least, 0, least, api.OK},
		{least, least, 0, api.OK},
		{least, greatest, 0, api.ErrOverflow},
		{0, least, 0, api.ErrOverflow},
		{-1, least, greatest, api.OK},
		{greatest, -1, 0, api.ErrOverflow},
		{greatest, greatest, 0, api.OK},
		{0, greatest, -greatest, api.OK},
		{-1, greatest, least, api.OK},
		{-2, greatest, 0, api.ErrOverflow},
	})
	checkExact(t, "Sub", Sub, api.OK, func(a, b *big.Int) *big.Int { return a.Sub(a, b) })
}

// P1.1
func TestMul(t *testing.T) {
	checkCases(t, "Mul", Mul, []binaryCase{
		{6, 7, 42, api.OK},
		{-6, 7, -42, api.OK},
		{-6, -7, 42, api.OK},
		{0, least, 0, api.OK},
		{greatest, 0, 0, api.OK},
		{1 << 32, 1 << 31, 0, api.ErrOverflow},
		{-1 << 32, 1 << 31, least, api.OK},
		{-1 << 32, -1 << 31, 0, api.ErrOverflow},
		{1 << 32, 1 << 32, 0, api.ErrOverflow},
		{1 << 33, 1 << 33, 0, api.ErrOverflow},
		{1, least, least, api.OK},
		{-1, least, 0, api.ErrOverflow},
		{least, least, 0, api.ErrOverflow},
		{-1, greatest, -greatest, api.OK},
		{greatest, greatest, 0, api.ErrOverflow},
		{2, 1 << 62, 0, api.ErrOverflow},
		{-2, 1 << 62, least, api.OK},
		{3037000499, 3037000499, 9223372030926249001, api.OK},
		{3037000500, 3037000500, 0, api.ErrOverflow},
	})
	checkExact(t, "Mul", Mul, api.OK, func(a, b *big.Int) *big.Int { return a.Mul(a, b) })
}

// floor returns quotient and remainder as the document defines them, or nil if
// b is 0. What big.Int has instead is a remainder that is never negative.
func floor(a, b *big.Int) (quotient, remainder *big.Int) {
	if b.Sign() == 0 {
		return nil, nil
	}
	q, r := new(big.Int).QuoRem(a, b, new(big.Int))
	if r.Sign()*b.Sign() < 0 {
		q.Sub(q, big.NewInt(1))
		r.Add(r, b)
	}
	return q, r
}

// P1.2
func TestDiv(t *testing.T) {
	checkCases(t, "Div", Div, []binaryCase{
		{7, 2, 3, api.OK},
		{-7, 2, -4, api.OK},
		{7, -2, -4, api.OK},
		{-7, -2, 3, api.OK},
		{6, -2, -3, api.OK},
		{-6, 2, -3, api.OK},
		{0, -5, 0, api.OK},
		{1, -5, -1, api.OK},
		{-1, 5, -1, api.OK},
		{1, 0, 0, api.ErrArg},
		{0, 0, 0, api.ErrArg},
		{least, 0, 0, api.ErrArg},
		{least, -1, 0, api.ErrOverflow},
		{least, 1, least, api.OK},
		{least + 1, -1, greatest, api.OK},
		{greatest, -1, -greatest, api.OK},
		{least, least, 1, api.OK},
		{least, greatest, -2, api.OK},
		{greatest, least, -1, api.OK},
	})
	checkExact(t, "Div", Div, api.ErrArg, func(a, b *big.Int) *big.Int {
		q, _ := floor(a, b)
		return q
	})
}

// P1.2
func TestMod(t *testing.T) {
	checkCases(t, "Mod", Mod, []binaryCase{
		{7, 2, 1, api.OK},
		{-7, 2, 1, api.OK},
		{7, -2, -1, api.OK},
		{-7, -2, -1, api.OK},
		{6, -2, 0, api.OK},
		{-6, 2, 0, api.OK},
		{-1, 5, 4, api.OK},
		{1, -5, -4, api.OK},
		{1, 0, 0, api.ErrArg},
		{0, 0, 0, api.ErrArg},
		{least, 0, 0, api.ErrArg},
		{least, -1, 0, api.OK},
		{least, 1, 0, api.OK},
		{least, least, 0, api.OK},
		{least, greatest, greatest - 1, api.OK},
		{greatest, least, -1, api.OK},
	})
	checkExact(t, "Mod", Mod, api.ErrArg, func(a, b *big.Int) *big.Int {
		_, r := floor(a, b)
		return r
	})
}

// P1.3
func TestPow10(t *testing.T) {
	want := int64(1)
	for n := 0; n <= 18; n++ {
		if p, err := Pow10(n); p != want || err != api.OK {
			t.Errorf("Pow10(%d) = %d, %d; want %d", n, p, err, want)
		}
		want *= 10
	}
	for _, n := range []int{-1, -2, -18, math.MinInt} {
		if p, err := Pow10(n); p != 0 || err != api.ErrArg {
			t.Errorf("Pow10(%d) = %d, %d; want ErrArg", n, p, err)
		}
	}
	for _, n := range []int{19, 20, 64, 1 << 20, math.MaxInt} {
		if p, err := Pow10(n); p != 0 || err != api.ErrOverflow {
			t.Errorf("Pow10(%d) = %d, %d; want ErrOverflow", n, p, err)
		}
	}
}

// P1.4
func TestGcd(t *testing.T) {
	checkCases(t, "Gcd", Gcd, []binaryCase{
		{12, 18, 6, api.OK},
		{-12, 18, 6, api.OK},
		{12, -18, 6, api.OK},
		{-12, -18, 6, api.OK},
		{7, 9, 1, api.OK},
		{0, 0, 0, api.OK},
		{0, 5, 5, api.OK},
		{-5, 0, 5, api.OK},
		{greatest, 0, greatest, api.OK},
		{-greatest, greatest, greatest, api.OK},
		{greatest, greatest - 1, 1, api.OK},
		{least, 0, 0, api.ErrOverflow},
		{0, least, 0, api.ErrOverflow},
		{least, least, 0, api.ErrOverflow},
		{least, 12, 4, api.OK},
		{-1 << 62, least, 1 << 62, api.OK},
		{least, -1, 1, api.OK},
		{greatest, least, 1, api.OK},
	})
	checkExact(t, "Gcd", Gcd, api.OK, func(a, b *big.Int) *big.Int { return a.GCD(nil, nil, a, b) })
}

// P1.6: Sub inverts Add, where both fit.
func TestSubInvertsAdd(t *testing.T) {
	for _, a := range edges() {
		for _, b := range edges() {
			sum, err := Add(a, b)
			if err != api.OK {
				continue
			}
			if back, err := Sub(sum, b); back != a || err != api.OK {
				t.Fatalf("Sub(Add(%d, %d), %d) = %d, %d", a, b, b, back, err)
			}
		}
	}
}

// P1.6: a is Div(a, b) times b and Mod(a, b) more.
func TestDivAndModMakeUpTheNumber(t *testing.T) {
	for _, a := range edges() {
		for _, b := range edges() {
			q, err := Div(a, b)
			if err != api.OK {
				continue
			}
			r, err := Mod(a, b)
			// Wrapping arithmetic suffices: the whole is known to fit, even
			// where the product alone does not.
			if err != api.OK || q*b+r != a {
				t.Fatalf("Div(%d, %d) = %d, Mod = %d, %d", a, b, q, r, err)
			}
			if r != 0 && (r < 0) != (b < 0) {
				t.Fatalf("Mod(%d, %d) = %d has the wrong sign", a, b, r)
			}
		}
	}
}

// P1.6: of two numbers that are divided by the same positive one, the greater
// one has no lesser quotient.
func TestDivKeepsTheOrder(t *testing.T) {
	for _, b := range edges() {
		if b <= 0 {
			continue
		}
		for _, a := range edges() {
			if a == greatest {
				continue
			}
			low, err := Div(a, b)
			if err != api.OK {
				t.Fatalf("Div(%d, %d): %d", a, b, err)
			}
			for _, above := range []int64{a + 1, greatest} {
				if high, err := Div(above, b); err != api.OK || high < low {
					t.Fatalf("Div(%d, %d) = %d, Div(%d, %d) = %d, %d", a, b, low, above, b, high, err)
				}
			}
		}
	}
}
