package runsets

import (
	"math"
	"slices"
	"strings"
	"testing"

	"circa/api"
	"circa/trials"
)

func checkText(t *testing.T, l []api.Run, want string, refused api.Errno) {
	if s, err := Text(l); s != want || err != refused {
		t.Helper()
		t.Errorf("Text = %.200q, %d; want %.200q, %d", s, err, want, refused)
	}
}

func checkParse(t *testing.T, s string, want []api.Run, refused api.Errno) {
	if l, err := Parse(s); !slices.Equal(l, want) || err != refused || cap(l) != len(l) {
		t.Helper()
		t.Errorf("Parse(%.60q) = %.200s (capacity %d), %d; want %.200s, %d", s, text(l), cap(l), err, text(want), refused)
	}
}

// P10.6: Parse inverts Text, for all sets of parts of the line.
func TestTexts(t *testing.T) {
	for _, x := range sets() {
		checkText(t, x.runs(), text(x.runs()), api.OK)
		checkParse(t, text(x.runs()), x.runs(), api.OK)
	}
	for s, l := range map[string][]api.Run{
		"none":               nil,
		"-inf..inf":          {all()},
		"-inf..-5,0..0":      {until(-5), run(0, 0)},
		"-3..-1,1..1,3..inf": {run(-3, -1), run(1, 1), since(3)},
		"-9223372036854775808..-2,0..9223372036854775807": {run(math.MinInt64, -2), run(0, math.MaxInt64)},
	} {
		checkText(t, l, s, api.OK)
		checkParse(t, s, l, api.OK)
	}
}

// P10.6: Text has the error of Check.
func TestTextsOfNoSets(t *testing.T) {
	for _, r := range wrong() {
		checkText(t, []api.Run{r}, "", flaw([]api.Run{r}))
		checkText(t, []api.Run{run(-9, -8), r, run(1, 2), run(1, 2)}, "", flaw([]api.Run{r}))
	}
	checkText(t, []api.Run{run(1, 2), run(3, 4)}, "", api.ErrOrder)
	checkText(t, []api.Run{run(5, 6), run(1, 2)}, "", api.ErrOrder)
	checkText(t, make([]api.Run, api.MaxRuns+1), "", api.ErrLimit)
}

// P10.6: the longest of all texts of sets is not too long.
func TestLongTexts(t *testing.T) {
	l := spread(api.MaxRuns, math.MinInt64, 2, 3)
	checkText(t, l, text(l), api.OK)
	checkParse(t, text(l), l, api.OK)
	if n := len(text(l)); n != api.MaxRuns*43-1 || n > api.MaxText {
		t.Errorf("%d bytes", n)
	}
	checkParse(t, text(l)+",5..5,7..7", nil, api.ErrLimit)
	checkParse(t, text(l)+",5..5", nil, api.ErrLimit)
	checkParse(t, text(l[1:])+",5..5", append(slices.Clone(l[1:]), run(5, 5)), api.OK)
}

// P10.6: a text that is too long is ErrLimit, whatever it is; one that is not
// has the errors of its parts first, then those of Check.
func TestParseLimit(t *testing.T) {
	runs := strings.Repeat("1..1,", api.MaxText/5)
	for s, want := range map[string]api.Errno{
		strings.Repeat("x", api.MaxText):           api.ErrForm,
		strings.Repeat("x", api.MaxText+1):         api.ErrLimit,
		strings.Repeat(",", api.MaxText):           api.ErrForm,
		strings.Repeat(",", api.MaxText+1):         api.ErrLimit,
		"1.." + strings.Repeat("9", api.MaxText-3): api.ErrOverflow,
		"1.." + strings.Repeat("9", api.MaxText-2): api.ErrLimit,
		runs + "1":                                                 api.ErrForm,
		runs + "12":                                                api.ErrLimit,
		runs[:len(runs)-5] + "1..12":                               api.ErrLimit,
		runs[:len(runs)-5] + "1..1x":                               api.ErrForm,
		runs[:len(runs)-5] + "5..1":                                api.ErrOrder,
		runs[:len(runs)-5] + "inf..1":                              api.ErrRange,
		"5..1," + runs[:len(runs)-10] + "inf..1":                   api.ErrOrder,
		"none" + strings.Repeat(" ", api.MaxText-4):                api.ErrForm,
		strings.Repeat("1..1,", api.MaxRuns-1) + "1..1":            api.ErrOrder,
		strings.Repeat("1..1,", api.MaxRuns) + "1..1":              api.ErrLimit,
		strings.Repeat("1..1,", api.MaxRuns) + "x":                 api.ErrForm,
		strings.Repeat("1..1,", api.MaxRuns):                       api.ErrForm,
		strings.Repeat("1..1,", api.MaxRuns) + "5..1":              api.ErrOrder,
		strings.Repeat("1..1,", api.MaxRuns) + "5..-inf":           api.ErrRange,
		"99999999999999999999..1," + runs[:5*api.MaxRuns] + "1..1": api.ErrOverflow,
	} {
		checkParse(t, s, nil, want)
	}
}

// P10.6: what counts first.
func TestParseOrder(t *testing.T) {
	const great = "99999999999999999999"
	for s, want := range map[string]api.Errno{
		"2..1,x":                      api.ErrForm,
		"x,2..1":                      api.ErrForm,
		great + "..0,":                api.ErrForm,
		"0.." + great + ",none":       api.ErrForm,
		"inf..inf,1":                  api.ErrForm,
		"5..6,1..2,":                  api.ErrForm,
		"2..1," + great + "..0":       api.ErrOrder,
		great + "..0,2..1":            api.ErrOverflow,
		"inf..0,2..1," + great + "..": api.ErrForm,
		"inf..0,2..1":                 api.ErrRange,
		"2..1,inf..0":                 api.ErrOrder,
		"5..6,1..2,inf..0":            api.ErrRange,
		"5..6,1..2,0.." + great:       api.ErrOverflow,
		"1..2,2..3":                   api.ErrOrder,
		"1..2,3..4":                   api.ErrOrder,
		"5..6,1..2":                   api.ErrOrder,
		"0..inf,5..6":                 api.ErrOrder,
		"0..6,-inf..-5":               api.ErrOrder,
	} {
		checkParse(t, s, nil, want)
	}
}

// P10.6: texts of no sets.
func TestParseForm(t *testing.T) {
	for _, s := range []string{
		"", ",", ",,", "none,", ",none", "none,none", "none,1..2", "1..2,none", "None", "NONE", "non", "nonee", " none", "none ", "none\n", "0", "1..2,", ",1..2", "1..2,,4..5",
		"1..2, 4..5", "1..2 ,4..5", " 1..2,4..5", "1..2,4..5 ", "1..2;4..5", "1..2 4..5", "1..2..4", "1..2,4..05", "1..2,+4..5", "[1..2,4..5]", "1..2.4..5", "1..2,4", "1,2", "1..,2", "-inf,inf",
		"1..2,4..5,", "1..2\x00,4..5", "1..2,\xff4..5", "1..2\uff0c4..5", "nil", "-inf..inf,inf", "1..2,-0..0", strings.Repeat("1..2,", 500),
	} {
		checkParse(t, s, nil, api.ErrForm)
	}
}

// P10.6, P10.7: all texts that two edits make of a few texts: exactly those are
// accepted that sets have.
func TestParseAcceptsOneFormOnly(t *testing.T) {
	for s := range trials.Near("0179-.,inoe \xff", 2, "", "none", "0..7,9..9", "-inf..1,3..inf", "5..7,10..19,30..31") {
		want, refused := read(s)
		checkParse(t, s, want, refused)
		if refused == api.OK {
			checkText(t, want, s, api.OK)
		}
	}
}

// P10.6: all short texts over a few bytes.
func TestParseShortTexts(t *testing.T) {
	for _, s := range trials.Short("02.,", 9) {
		want, refused := read(s)
		checkParse(t, s, want, refused)
	}
}

// P10.1 to P10.6: the chapter's examples.
func TestExamples(t *testing.T) {
	set := func(s string) []api.Run {
		l, err := Parse(s)
		if err != api.OK {
			t.Errorf("Parse(%q): %d", s, err)
		}
		return l
	}
	checkOf(t, []api.Run{run(5, 9), run(1, 2), run(3, 3), run(8, 12)}, set("1..3,5..12"), api.OK)
	checkCheck(t, []api.Run{run(1, 2), run(3, 4)}, api.ErrOrder)
	checkCheck(t, []api.Run{run(5, 6), run(1, 2)}, api.ErrOrder)
	checkCheck(t, []api.Run{run(1, 2), run(4, 4)}, api.OK)
	checkThree(t, set("1..2,5..6"), set("3..3"), set("1..3,5..6"), nil, set("1..2,5..6"))
	checkThree(t, set("1..5,9..inf"), set("4..10"), set("1..inf"), set("4..5,9..10"), set("1..3,11..inf"))
	checkThree(t, set("1..9"), set("3..4,6..6"), set("1..9"), set("3..4,6..6"), set("1..2,5..5,7..9"))
	checkComplement(t, set("-inf..0,5..6"), set("1..4,7..inf"), api.OK)
	checkComplement(t, set("none"), set("-inf..inf"), api.OK)
	checkComplement(t, set("0..9223372036854775807"), set("-inf..-1"), api.OK)
	checkWithin(t, set("2..3"), set("1..5,9..9"), true, api.OK)
	checkCount(t, set("1..3,7..7"), 4, api.OK)
	checkEnds(t, set("none"), api.End{}, api.End{}, api.ErrEmpty)
	checkEnds(t, set("1..inf"), api.End{Day: 1}, api.End{Inf: 1}, api.OK)
	checkParse(t, "1..3,5..5", []api.Run{run(1, 3), run(5, 5)}, api.OK)
	checkParse(t, "", nil, api.ErrForm)
	checkParse(t, "1..3,", nil, api.ErrForm)
	checkParse(t, "1..3,4..4", nil, api.ErrOrder)
}
