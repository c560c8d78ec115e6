package ends

import (
	"math"
	"strconv"
	"strings"
	"testing"

	"circa/api"
	"circa/trials"
)

func checkCompare(t *testing.T, a, b api.End, want int) {
	if got := Compare(a, b); got != want {
		t.Helper()
		t.Errorf("Compare(%v, %v) = %d; want %d", a, b, got, want)
	}
}

func checkNext(t *testing.T, x, want api.End, refused api.Errno) {
	if next, err := Next(x); next != want || err != refused {
		t.Helper()
		t.Errorf("Next(%v) = %v, %d; want %v, %d", x, next, err, want, refused)
	}
}

func checkPrev(t *testing.T, x, want api.End, refused api.Errno) {
	if prev, err := Prev(x); prev != want || err != refused {
		t.Helper()
		t.Errorf("Prev(%v) = %v, %d; want %v, %d", x, prev, err, want, refused)
	}
}

func checkText(t *testing.T, x api.End, want string, refused api.Errno) {
	if s, err := Text(x); s != want || err != refused {
		t.Helper()
		t.Errorf("Text(%v) = %q, %d; want %q, %d", x, s, err, want, refused)
	}
}

func checkParse(t *testing.T, s string, want api.End, refused api.Errno) {
	if x, err := Parse(s); x != want || err != refused {
		t.Helper()
		t.Errorf("Parse(%.60q) = %v, %d; want %v, %d", s, x, err, want, refused)
	}
}

// P8.1: what is right.
func TestCheck(t *testing.T) {
	for _, x := range rightEnds() {
		if err := Check(x); err != api.OK {
			t.Errorf("Check(%v) = %d", x, err)
		}
	}
}

// P8.1, P8.3, P8.4: what is not right, also where its day has no next one.
func TestNoEnds(t *testing.T) {
	for _, x := range noEnds() {
		if err := Check(x); err != api.ErrForm {
			t.Errorf("Check(%v) = %d", x, err)
		}
		checkNext(t, x, api.End{}, api.ErrForm)
		checkPrev(t, x, api.End{}, api.ErrForm)
		checkText(t, x, "", api.ErrForm)
	}
}

// P8.1
func TestOf(t *testing.T) {
	for _, n := range days() {
		if x := Of(n); x.Inf != 0 || x.Day != n {
			t.Errorf("Of(%d) = %v", n, x)
		}
	}
}

// checkOrder holds Compare, Min and Max of all pairs against the order that the
// ends of a list stand in.
func checkOrder(t *testing.T, l []api.End) {
	for i, a := range l {
		for j, b := range l {
			want, lesser, greater := 0, a, b
			switch {
			case i < j:
				want = -1
			case i > j:
				want, lesser, greater = 1, b, a
			}
			checkCompare(t, a, b, want)
			if x := Min(a, b); x != lesser {
				t.Errorf("Min(%v, %v) = %v", a, b, x)
			}
			if x := Max(a, b); x != greater {
				t.Errorf("Max(%v, %v) = %v", a, b, x)
			}
		}
	}
}

// P8.2, P8.5: -infinity, the days ascending, infinity.
func TestOrder(t *testing.T) {
	checkOrder(t, rightEnds())
}

// P8.2, P8.5: ends that need not be right are compared as numbers.
func TestOrderOfAll(t *testing.T) {
	l := []api.End{}
	for _, inf := range []int8{math.MinInt8, math.MinInt8 + 1, -2, -1, 0, 1, 2, math.MaxInt8 - 1, math.MaxInt8} {
		for _, n := range days() {
			l = append(l, api.End{Inf: inf, Day: n})
		}
	}
	checkOrder(t, l)
}

// P8.3, P8.5: days that are beside each other.
func TestNextAndPrev(t *testing.T) {
	for _, n := range days() {
		if n < math.MaxInt64 {
			checkNext(t, day(n), day(n+1), api.OK)
			checkPrev(t, day(n+1), day(n), api.OK)
		}
		if n > math.MinInt64 {
			checkPrev(t, day(n), day(n-1), api.OK)
			checkNext(t, day(n-1), day(n), api.OK)
		}
	}
}

// P8.3: infinities stay, and what does not fit.
func TestNextAndPrevAtEnds(t *testing.T) {
	for _, x := range []api.End{low, high} {
		checkNext(t, x, x, api.OK)
		checkPrev(t, x, x, api.OK)
	}
	checkNext(t, day(math.MaxInt64), api.End{}, api.ErrOverflow)
	checkPrev(t, day(math.MinInt64), api.End{}, api.ErrOverflow)
}

// P8.5: Prev inverts Next, and nothing lies between a day and its Next.
func TestNextIsBeside(t *testing.T) {
	for _, n := range days() {
		next, err := Next(Of(n))
		if err != api.OK {
			continue
		}
		checkPrev(t, next, Of(n), api.OK)
		checkCompare(t, Of(n), next, -1)
		for _, x := range append(rightEnds(), noEnds()...) {
			if Compare(Of(n), x) < 0 && Compare(x, next) < 0 {
				t.Errorf("%v is between %d and its Next", x, n)
			}
		}
	}
}

// P8.4, P8.5: Parse inverts Text.
func TestTexts(t *testing.T) {
	for _, n := range days() {
		s := strconv.FormatInt(n, 10)
		checkText(t, day(n), s, api.OK)
		checkParse(t, s, day(n), api.OK)
	}
	checkText(t, low, "-inf", api.OK)
	checkText(t, high, "inf", api.OK)
	checkParse(t, "-inf", low, api.OK)
	checkParse(t, "inf", high, api.OK)
}

// P8.4: integers that do not fit.
func TestParseOverflow(t *testing.T) {
	for _, s := range []string{
		"9223372036854775808", "-9223372036854775809", "10000000000000000000",
		"18446744073709551615", "18446744073709551616", "-18446744073709551616",
		"1" + strings.Repeat("0", 5000), "-" + strings.Repeat("9", 5000),
	} {
		checkParse(t, s, api.End{}, api.ErrOverflow)
	}
}

// P8.4: texts of no integers and no infinities, also where a text would
// overflow if it were one.
func TestParseForm(t *testing.T) {
	for _, s := range []string{
		"", "-", "+inf", "--inf", "-+inf", "+-inf", "in", "i", "nf", "-in", "-i", "inf-", "inff", "infinf", "inf-inf", "inf..inf", "-inf..",
		"Inf", "INF", "-Inf", "-INF", "iNf", "-inF", "infinity", "-infinity", "Infinity", "-Infinity", "oo", "\u221e", "-\u221e", "\u2212inf", "nan", "NaN", "none",
		" inf", "inf ", "- inf", "-inf\n", "\tinf", "inf\x00", "\x00inf", "inf\xff", "\uff49nf", "inf0", "0inf", "-0inf", "1inf", "inf1", "inf5", "i1f", "\xef\xbb\xbfinf",
		"-0", "00", "007", "-01", "+0", "+5", " 5", "5 ", "1.0", "1e3", "0x1", "1_0", "1,0", "\u0661", "\u22125", "--5",
		"99999999999999999999x", "099999999999999999999", "-099999999999999999999", "+99999999999999999999", "99999999999999999999inf",
		strings.Repeat("inf", 2000), strings.Repeat("-", 5000) + "inf", "-" + strings.Repeat("0", 5000),
	} {
		checkParse(t, s, api.End{}, api.ErrForm)
	}
}

// P8.4, P8.5: all texts that two edits make of a few texts: exactly those are
// accepted that ends have.
func TestParseAcceptsOneFormOnly(t *testing.T) {
	texts := []string{"", "inf", "-inf", "0", "-10", "9223372036854775807", "-9223372036854775808"}
	for s := range trials.Near("0789infINF-+ .\x00\xff", 2, texts...) {
		want, refused := read(s)
		checkParse(t, s, want, refused)
		if refused == api.OK {
			checkText(t, want, s, api.OK)
		}
	}
}

// P8.4: all short texts over a few bytes.
func TestParseShortTexts(t *testing.T) {
	for _, s := range trials.Short("-+inf01", 6) {
		want, refused := read(s)
		checkParse(t, s, want, refused)
	}
}

// P8.1 to P8.4: the chapter's examples.
func TestExamples(t *testing.T) {
	checkCompare(t, low, day(math.MinInt64), -1)
	checkCompare(t, high, day(math.MaxInt64), 1)
	checkCompare(t, day(3), day(3), 0)
	checkNext(t, day(5), day(6), api.OK)
	checkNext(t, high, high, api.OK)
	checkNext(t, day(math.MaxInt64), api.End{}, api.ErrOverflow)
	checkPrev(t, day(math.MinInt64), api.End{}, api.ErrOverflow)
	if a, b := Min(low, day(3)), Max(day(4), high); a != low || b != high {
		t.Errorf("Min(-inf, 3), Max(4, inf) = %v, %v", a, b)
	}
	checkText(t, day(-7), "-7", api.OK)
	checkText(t, low, "-inf", api.OK)
	checkParse(t, "inf", high, api.OK)
	checkParse(t, "+inf", api.End{}, api.ErrForm)
	checkParse(t, "9223372036854775808", api.End{}, api.ErrOverflow)
	for _, x := range []api.End{{Inf: 2}, {Inf: 1, Day: 5}} {
		if err := Check(x); err != api.ErrForm {
			t.Errorf("Check(%v) = %d", x, err)
		}
	}
}
