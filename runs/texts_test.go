package runs

import (
	"math"
	"strconv"
	"strings"
	"testing"

	"circa/api"
	"circa/trials"
)

func checkText(t *testing.T, r api.Run, want string, refused api.Errno) {
	if s, err := Text(r); s != want || err != refused {
		t.Helper()
		t.Errorf("Text(%v) = %q, %d; want %q, %d", r, s, err, want, refused)
	}
}

func checkParse(t *testing.T, s string, want api.Run, refused api.Errno) {
	if r, err := Parse(s); r != want || err != refused {
		t.Helper()
		t.Errorf("Parse(%.60q) = %v, %d; want %v, %d", s, r, err, want, refused)
	}
}

// endText is the text of a right end.
func endText(x api.End) string {
	switch x {
	case low:
		return "-inf"
	case high:
		return "inf"
	}
	return strconv.FormatInt(x.Day, 10)
}

// P9.7, P9.8: Parse inverts Text.
func TestTexts(t *testing.T) {
	for _, s := range spans() {
		text := endText(s.run.Lo) + ".." + endText(s.run.Hi)
		checkText(t, s.run, text, api.OK)
		checkParse(t, text, s.run, api.OK)
	}
}

// P9.7: Text has the error of Check, and so has Parse of the text of two right
// ends that are no run.
func TestTextsOfNoRuns(t *testing.T) {
	for _, r := range noRuns() {
		checkText(t, r, "", flaw(r))
		if flaw(r) != api.ErrForm {
			checkParse(t, endText(r.Lo)+".."+endText(r.Hi), api.Run{}, flaw(r))
		}
	}
}

// P9.7: all pairs of some texts: ErrForm on either side, then ErrOverflow on
// either side, then the error of Check.
func TestParsePairs(t *testing.T) {
	texts := []string{
		"", "0", "5", "-5", "9223372036854775807", "-9223372036854775808", "inf", "-inf",
		"9223372036854775808", "-9223372036854775809", "99999999999999999999", "1" + strings.Repeat("0", 5000),
		"-0", "007", "+5", "x", ".", "..", "+inf", "099999999999999999999", "5 ", " 5", "5.0", "5..6", "Inf",
	}
	for _, lo := range texts {
		for _, hi := range texts {
			want, refused := read(lo + ".." + hi)
			checkParse(t, lo+".."+hi, want, refused)
		}
	}
}

// P9.7: what counts first.
func TestParseOrder(t *testing.T) {
	for s, want := range map[string]api.Errno{
		"x..99999999999999999999":                     api.ErrForm,
		"99999999999999999999..x":                     api.ErrForm,
		"99999999999999999999..":                      api.ErrForm,
		"inf..x":                                      api.ErrForm,
		"x..-inf":                                     api.ErrForm,
		"99999999999999999999..5":                     api.ErrOverflow,
		"5..-99999999999999999999":                    api.ErrOverflow,
		"99999999999999999999..-99999999999999999999": api.ErrOverflow,
		"inf..99999999999999999999":                   api.ErrOverflow,
		"99999999999999999999..-inf":                  api.ErrOverflow,
		"inf..-inf":                                   api.ErrRange,
		"inf..5":                                      api.ErrRange,
		"5..-inf":                                     api.ErrRange,
		"-inf..-inf":                                  api.ErrRange,
		"0..-1":                                       api.ErrOrder,
	} {
		checkParse(t, s, api.Run{}, want)
	}
}

// P9.7: texts of no runs.
func TestParseForm(t *testing.T) {
	for _, s := range []string{
		"", ".", "..", "...", "....", "5", "inf", "5..", "..5", "5.6", "5.", ".5", "5...6", "5....6", "5.. 6", "5 ..6", " 5..6", "5..6 ", "5..6\n",
		"5-6", "5,6", "5/6", "5:6", "5\u20266", "5\u20256", "5. .6", "5..6..7", "5..6.", ".5..6", "5..6..", "..5..6", "[5..6]", "5..+6", "+5..6",
		"05..6", "5..06", "-0..6", "-1..-0", "+inf..inf", "-inf..+inf", "-inf..Inf", "-INF..inf", "5..0x6", "5..6e1", "5..1_0", "5.0..6", "5\x00..6", "\xff5..6",
		strings.Repeat(".", 5000), "5" + strings.Repeat("..5", 2000), strings.Repeat("5..", 2000),
	} {
		checkParse(t, s, api.Run{}, api.ErrForm)
	}
}

// P9.7, P9.8: all texts that two edits make of a few texts: exactly those are
// accepted that runs have.
func TestParseAcceptsOneFormOnly(t *testing.T) {
	texts := []string{"", "0..7", "-inf..inf", "-10..9", "9223372036854775800..9223372036854775807"}
	for s := range trials.Near("079inf-.+, \xff", 2, texts...) {
		want, refused := read(s)
		checkParse(t, s, want, refused)
		if refused == api.OK {
			checkText(t, want, s, api.OK)
		}
	}
}

// P9.7: all short texts over a few bytes.
func TestParseShortTexts(t *testing.T) {
	for _, s := range trials.Short("-.01i", 7) {
		want, refused := read(s)
		checkParse(t, s, want, refused)
	}
}

// P9.1 to P9.7: the chapter's examples.
func TestExamples(t *testing.T) {
	a := days(1, 3)
	checkPair(t, a, days(4, 5), days(1, 5), api.Run{}, true, false, false)
	checkPair(t, a, days(5, 6), api.Run{}, api.Run{}, false, false, false)
	checkPair(t, api.Run{Lo: low, Hi: day(3)}, api.Run{Lo: day(2), Hi: high}, api.Run{Lo: low, Hi: high}, days(2, 3), true, true, false)
	checkPair(t, a, days(3, 9), days(1, 9), days(3, 3), true, true, false)
	checkLen(t, days(3, 5), 3, api.OK)
	checkLen(t, api.Run{Lo: low, Hi: day(3)}, 0, api.ErrNone)
	checkLen(t, days(-1, math.MaxInt64), 0, api.ErrOverflow)
	checkShift(t, api.Run{Lo: day(3), Hi: high}, -4, api.Run{Lo: day(-1), Hi: high}, api.OK)
	checkShift(t, days(0, math.MaxInt64), 1, api.Run{}, api.ErrOverflow)
	if !Has(api.Run{Lo: low, Hi: day(3)}, math.MinInt64) {
		t.Error("-inf..3 has not the least day")
	}
	if Within(api.Run{Lo: day(0), Hi: high}, days(0, math.MaxInt64)) {
		t.Error("0..inf is within 0..2^63 - 1")
	}
	checkParse(t, "-inf..-3", api.Run{Lo: low, Hi: day(-3)}, api.OK)
	checkParse(t, "5..3", api.Run{}, api.ErrOrder)
	checkParse(t, "inf..inf", api.Run{}, api.ErrRange)
	checkParse(t, "1...3", api.Run{}, api.ErrForm)
}
