package masks

import (
	"strings"
	"testing"

	"circa/api"
)

// refused are texts that are no masks, with the errors of Check.
func refused() map[string]api.Errno {
	l := map[string]api.Errno{}
	for _, s := range []string{
		"", "x", "12x", "xXX", "1 2", " 12", "12 ", "12\n", "-12", "+12", "-", "1.2", "1,2", "1e2", "1_2", "0x1",
		"/", ":", "W", "Y", "a", "O", "?", "*", "\x00", "1\x00", "X\x80", "\xff", "1X\xc3",
		"\uff11", "\u0661", "\u0130", "\u0158", "1\u0130X", "\u00d7", "\u0425",
		strings.Repeat("x", MaxLen), strings.Repeat("1", MaxLen-1) + "x", "x" + strings.Repeat("1", MaxLen-1),
		strings.Repeat("\u0130", MaxLen/2), strings.Repeat("\uff11", MaxLen/3),
	} {
		l[s] = api.ErrForm
	}
	for _, s := range []string{
		strings.Repeat("1", MaxLen+1), strings.Repeat("X", MaxLen+1), strings.Repeat("0", MaxLen+1),
		strings.Repeat("x", MaxLen+1), strings.Repeat("\xff", MaxLen+1), strings.Repeat("X", 5000),
		strings.Repeat("\u0130", MaxLen/2) + "1", strings.Repeat("\uff11", MaxLen/3+1),
	} {
		l[s] = api.ErrLimit
	}
	return l
}

// P3.1
func TestCheck(t *testing.T) {
	if MaxLen != 18 {
		t.Errorf("MaxLen = %d", MaxLen)
	}
	for s, want := range refused() {
		if err := Check(s); err != want {
			t.Errorf("Check(%q) = %d; want %d", s, err, want)
		}
	}
	for _, m := range []string{"0", "9", "X", "00", "1X0X", "0123456789X", strings.Repeat("X", MaxLen), strings.Repeat("9", MaxLen)} {
		if err := Check(m); err != api.OK {
			t.Errorf("Check(%q) = %d", m, err)
		}
	}
}

// P3.1: of all bytes eleven can stand in a mask, at each place.
func TestCheckOfEachByte(t *testing.T) {
	for b := range 256 {
		s := string([]byte{byte(b)})
		want := api.ErrForm
		if strings.Contains("0123456789X", s) {
			want = api.OK
		}
		for _, m := range []string{s, s + "1", "1" + s, "X" + s + "X", strings.Repeat("X", MaxLen-1) + s} {
			if err := Check(m); err != want {
				t.Errorf("Check(%q) = %d; want %d", m, err, want)
			}
		}
	}
}

// P3.1 to P3.5: what Check refuses is refused by all others too, whatever the
// other argument is, and with nothing but the error.
func TestAllRefuseWhatIsNoMask(t *testing.T) {
	for s, want := range refused() {
		for name, f := range map[string]func(m string) (int64, api.Errno){"Count": Count, "Least": Least, "Greatest": Greatest} {
			if n, err := f(s); n != 0 || err != want {
				t.Errorf("%s(%q) = %d, %d; want %d", name, s, n, err, want)
			}
		}
		for name, f := range map[string]func(m string, n int64) (int64, api.Errno){"Next": Next, "Prev": Prev, "Nth": Nth, "Index": Index} {
			for _, n := range []int64{least, -1, 0, 1, 12, greatest} {
				if got, err := f(s, n); got != 0 || err != want {
					t.Errorf("%s(%q, %d) = %d, %d; want %d", name, s, n, got, err, want)
				}
				if Has(s, n) {
					t.Errorf("Has(%q, %d)", s, n)
				}
			}
		}
		for _, m := range []string{"1", "1XX", s} {
			checkCommon(t, s, m, "", want)
			checkCommon(t, m, s, "", want)
		}
		for other, err := range refused() {
			checkCommon(t, s, other, "", want)
			checkCommon(t, other, s, "", err)
		}
	}
}

// P3.2
func TestCountAndEnds(t *testing.T) {
	for _, c := range []struct {
		m                      string
		count, least, greatest int64
	}{
		{"0", 1, 0, 0},
		{"7", 1, 7, 7},
		{"007", 1, 7, 7},
		{"X", 10, 0, 9},
		{"XX", 100, 0, 99},
		{"X0", 10, 0, 90},
		{"0X", 10, 0, 9},
		{"9X", 10, 90, 99},
		{"19XX", 100, 1900, 1999},
		{"1X0X", 100, 1000, 1909},
		{"X2X", 100, 20, 929},
		{strings.Repeat("0", MaxLen), 1, 0, 0},
		{strings.Repeat("9", MaxLen), 1, 999999999999999999, 999999999999999999},
		{strings.Repeat("X", MaxLen), 1000000000000000000, 0, 999999999999999999},
		{"1" + strings.Repeat("X", MaxLen-1), 100000000000000000, 100000000000000000, 199999999999999999},
	} {
		count, err := Count(c.m)
		low, err2 := Least(c.m)
		high, err3 := Greatest(c.m)
		if count != c.count || low != c.least || high != c.greatest || err != api.OK || err2 != api.OK || err3 != api.OK {
			t.Errorf("%s: Count = %d, %d, Least = %d, %d, Greatest = %d, %d", c.m, count, err, low, err2, high, err3)
		}
	}
}

// P3.2
func TestHas(t *testing.T) {
	full := strings.Repeat("X", MaxLen)
	for _, c := range []struct {
		m    string
		n    int64
		want bool
	}{
		{"1X0X", 1507, true},
		{"1X0X", 1517, false},
		{"1X0X", 507, false},
		{"1X0X", 11507, false},
		{"1X0X", 2507, false},
		{"1X0X", -1507, false},
		{"XX", 0, true},
		{"XX", 7, true},
		{"XX", 99, true},
		{"XX", 100, false},
		{"XX", -1, false},
		{"0", 0, true},
		{"0", 10, false},
		{"7", 17, false},
		{"7", -7, false},
		{"8", least, false},
		{"7", greatest, false},
		{full, 0, true},
		{full, 999999999999999999, true},
		{full, 1000000000000000000, false},
		{full, greatest, false},
		{full, least, false},
	} {
		if got := Has(c.m, c.n); got != c.want {
			t.Errorf("Has(%s, %d) = %t", c.m, c.n, got)
		}
	}
}

func checkCommon(t *testing.T, a, b, want string, wantErr api.Errno) {
	t.Helper()
	if m, err := Common(a, b); m != want || err != wantErr {
		t.Errorf("Common(%q, %q) = %q, %d; want %q, %d", a, b, m, err, want, wantErr)
	}
}

// P3.5
func TestCommon(t *testing.T) {
	full := strings.Repeat("X", MaxLen)
	for _, c := range []struct {
		a, b, want string
		err        api.Errno
	}{
		{"1XX", "X2X", "12X", api.OK},
		{"X", "X", "X", api.OK},
		{"5", "5", "5", api.OK},
		{"5", "6", "", api.ErrNone},
		{"XX", "12", "12", api.OK},
		{"12", "XX", "12", api.OK},
		{"1X", "2X", "", api.ErrNone},
		{"1X2", "1X3", "", api.ErrNone},
		{"1X2", "132", "132", api.OK},
		{"1", "12", "", api.ErrArg},
		{"12", "1", "", api.ErrArg},
		{"X", "XX", "", api.ErrArg},
		{"0", "00", "", api.ErrArg},
		{"1", "23", "", api.ErrArg},
		{full, strings.Repeat("9", MaxLen), strings.Repeat("9", MaxLen), api.OK},
		{full, full[1:], "", api.ErrArg},
	} {
		checkCommon(t, c.a, c.b, c.want, c.err)
	}
}

// P3.5, P3.6: of short masks of one length, the numbers in common are those of
// both; of other pairs there are none.
func TestCommonHasTheNumbersOfBoth(t *testing.T) {
	l := append(textsOf(1, "0123456789X"), textsOf(2, "0123456789X")...)
	for _, a := range l {
		for _, b := range l {
			m, err := Common(a, b)
			if len(a) != len(b) {
				checkCommon(t, a, b, "", api.ErrArg)
				continue
			}
			shared := false
			for n := int64(-1); n <= 100; n++ {
				both := agrees(a, n) && agrees(b, n)
				shared = shared || both
				if err == api.OK && agrees(m, n) != both {
					t.Fatalf("Common(%q, %q) = %q, which is wrong for %d", a, b, m, n)
				}
			}
			if shared != (err == api.OK) || !shared && (m != "" || err != api.ErrNone) {
				t.Fatalf("Common(%q, %q) = %q, %d", a, b, m, err)
			}
		}
	}
}

// P3.6: a mask has a number exactly if Common with the number's digits is that.
func TestHasIsCommonWithTheDigits(t *testing.T) {
	for _, m := range longMasks() {
		for _, n := range about(m) {
			if n < 0 || len(padded(n, len(m))) != len(m) {
				if Has(m, n) {
					t.Fatalf("Has(%s, %d)", m, n)
				}
				continue
			}
			text := padded(n, len(m))
			if agrees(m, n) {
				checkCommon(t, m, text, text, api.OK)
				checkCommon(t, text, m, text, api.OK)
			} else {
				checkCommon(t, m, text, "", api.ErrNone)
				checkCommon(t, text, m, "", api.ErrNone)
			}
			if Has(m, n) != agrees(m, n) {
				t.Fatalf("Has(%s, %d) = %t", m, n, Has(m, n))
			}
		}
	}
}

// P3.2, P3.6: Count is 10 to the number of X, Least has the index 0, Greatest
// the last one.
func TestCountIsAPowerOfTen(t *testing.T) {
	for _, m := range append(shortMasks(), longMasks()...) {
		count, err := Count(m)
		if count != power(m) || err != api.OK {
			t.Fatalf("Count(%s) = %d, %d", m, count, err)
		}
		low, err := Least(m)
		high, err2 := Greatest(m)
		if err != api.OK || err2 != api.OK || !agrees(m, low) || !agrees(m, high) || below(m, low) != 0 || below(m, high) != count-1 {
			t.Fatalf("%s: Least = %d, %d, Greatest = %d, %d", m, low, err, high, err2)
		}
		checkCall(t, "Index", Index, m, low, 0, api.OK)
		checkCall(t, "Index", Index, m, high, count-1, api.OK)
	}
}
