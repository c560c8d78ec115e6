package ints

import (
	"math/big"
	"strings"
	"testing"

	"circa/api"
	"circa/trials"
)

// P1.5
func TestText(t *testing.T) {
	for _, c := range []struct {
		n    int64
		want string
	}{
		{0, "0"},
		{7, "7"},
		{-7, "-7"},
		{10, "10"},
		{-100, "-100"},
		{1234567890, "1234567890"},
		{greatest, "9223372036854775807"},
		{least, "-9223372036854775808"},
	} {
		if s := Text(c.n); s != c.want {
			t.Errorf("Text(%d) = %q; want %q", c.n, s, c.want)
		}
	}
}

// P1.5
func TestParseFits(t *testing.T) {
	for _, c := range []struct {
		s    string
		want int64
	}{
		{"0", 0},
		{"7", 7},
		{"-7", -7},
		{"10", 10},
		{"-1000", -1000},
		{"9223372036854775807", greatest},
		{"-9223372036854775807", -greatest},
		{"-9223372036854775808", least},
	} {
		if n, err := Parse(c.s); n != c.want || err != api.OK {
			t.Errorf("Parse(%q) = %d, %d; want %d", c.s, n, err, c.want)
		}
	}
}

// P1.5
func TestParseOverflow(t *testing.T) {
	for _, s := range []string{
		"9223372036854775808",
		"-9223372036854775809",
		"10000000000000000000",
		"18446744073709551615",
		"18446744073709551616",
		"-18446744073709551616",
		"99999999999999999999999",
		"1" + strings.Repeat("0", 5000),
		"-" + strings.Repeat("9", 5000),
	} {
		if n, err := Parse(s); n != 0 || err != api.ErrOverflow {
			t.Errorf("Parse(%.40q) = %d, %d; want ErrOverflow", s, n, err)
		}
	}
}

// P1.5: also where a text would overflow if it were one.
func TestParseForm(t *testing.T) {
	for _, s := range []string{
		"", "-", "--1", "-0", "00", "007", "-01", "-00", "+0", "+1", "-+1", "+-1",
		" 1", "1 ", "\t1", "1\n", "1\x00", "\x001",
		"1_0", "1,000", "1.0", "1.", ".1", "1e3", "1E3", "0x1", "0b1", "0o7", "1-", "1-2", "1a2",
		"a", "nil", "NaN", "Inf", "\u22121", "\u0661", "\uff11", "1\xff", "\xff",
		"99999999999999999999999x", "x99999999999999999999999", "9999999999999x9999999999",
		"099999999999999999999999", "-099999999999999999999999", "99999999999999999999999_9",
		strings.Repeat("0", 5000),
	} {
		if n, err := Parse(s); n != 0 || err != api.ErrForm {
			t.Errorf("Parse(%.40q) = %d, %d; want ErrForm", s, n, err)
		}
	}
}

// P1.5, P1.6: Parse inverts Text.
func TestParseInvertsText(t *testing.T) {
	for _, n := range edges() {
		s := Text(n)
		if want := big.NewInt(n).String(); s != want {
			t.Errorf("Text(%d) = %q; want %q", n, s, want)
		}
		if back, err := Parse(s); back != n || err != api.OK {
			t.Errorf("Parse(%q) = %d, %d", s, back, err)
		}
	}
}

// P1.5: of all short texts over a few bytes exactly those are accepted that
// Text writes.
func TestParseAcceptsOneFormOnly(t *testing.T) {
	written := map[string]int64{}
	for n := int64(-9999); n <= 99999; n++ {
		written[Text(n)] = n
	}
	for _, s := range trials.Short("0129-+ _.x", 5) {
		want, ok := written[s]
		n, err := Parse(s)
		if ok && (n != want || err != api.OK) || !ok && (n != 0 || err != api.ErrForm) {
			t.Fatalf("Parse(%q) = %d, %d", s, n, err)
		}
	}
}
