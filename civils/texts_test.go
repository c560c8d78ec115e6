package civils

import (
	"math/big"
	"strings"
	"testing"

	"circa/api"
	"circa/trials"
)

func checkParse(t *testing.T, s string, want api.Civil, refused api.Errno) {
	if c, err := Parse(s); c != want || err != refused {
		t.Helper()
		t.Errorf("Parse(%.60q) = %v, %d; want %v, %d", s, c, err, want, refused)
	}
}

// P6.6, P6.7: years with any number of digits.
func TestTexts(t *testing.T) {
	for text, c := range map[string]api.Civil{
		"0005-06-07":               {Year: 5, Month: 6, Day: 7},
		"-12345-11-30":             {Year: -12345, Month: 11, Day: 30},
		"0000-02-29":               {Year: 0, Month: 2, Day: 29},
		"-0001-12-31":              {Year: -1, Month: 12, Day: 31},
		"0010-10-10":               {Year: 10, Month: 10, Day: 10},
		"-0099-01-09":              {Year: -99, Month: 1, Day: 9},
		"0100-09-01":               {Year: 100, Month: 9, Day: 1},
		"0999-12-30":               {Year: 999, Month: 12, Day: 30},
		"-0999-12-30":              {Year: -999, Month: 12, Day: 30},
		"1000-01-31":               {Year: 1000, Month: 1, Day: 31},
		"-1000-01-31":              {Year: -1000, Month: 1, Day: 31},
		"9999-12-31":               {Year: 9999, Month: 12, Day: 31},
		"-9999-12-31":              {Year: -9999, Month: 12, Day: 31},
		"10000-01-01":              {Year: 10000, Month: 1, Day: 1},
		"-10000-01-01":             {Year: -10000, Month: 1, Day: 1},
		"9999999999999999-08-20":   {Year: 9999999999999999, Month: 8, Day: 20},
		"10000000000000000-12-31":  {Year: api.MaxYear, Month: 12, Day: 31},
		"-10000000000000000-01-01": {Year: -api.MaxYear, Month: 1, Day: 1},
	} {
		if s, err := Text(c); s != text || err != api.OK {
			t.Errorf("Text(%v) = %q, %d; want %q", c, s, err, text)
		}
		checkParse(t, text, c, api.OK)
	}
}

// P6.6: the error of the year, then that of the month, then that of the day.
func TestParseRefusesDays(t *testing.T) {
	for s, want := range map[string]api.Errno{
		"10000000000000001-01-01":                  api.ErrYear,
		"-10000000000000001-12-31":                 api.ErrYear,
		"10000000000000001-13-01":                  api.ErrYear,
		"10000000000000001-01-32":                  api.ErrYear,
		"9223372036854775807-01-01":                api.ErrYear,
		"9223372036854775808-01-01":                api.ErrYear,
		"-9223372036854775808-01-01":               api.ErrYear,
		"-9223372036854775809-01-01":               api.ErrYear,
		"18446744073709551616-01-01":               api.ErrYear,
		"18446744073709553616-01-01":               api.ErrYear,
		"-18446744073709551616-13-99":              api.ErrYear,
		"1" + strings.Repeat("0", 5000) + "-01-1":  api.ErrForm,
		"1" + strings.Repeat("0", 5000) + "-01-01": api.ErrYear,
		"2001-00-01":                               api.ErrMonth,
		"2001-13-01":                               api.ErrMonth,
		"2001-21-01":                               api.ErrMonth,
		"2001-99-99":                               api.ErrMonth,
		"2001-00-00":                               api.ErrMonth,
		"0000-00-00":                               api.ErrMonth,
		"2001-01-00":                               api.ErrDay,
		"2001-01-32":                               api.ErrDay,
		"2001-04-31":                               api.ErrDay,
		"2001-02-29":                               api.ErrDay,
		"1900-02-29":                               api.ErrDay,
		"2000-02-30":                               api.ErrDay,
		"-0001-02-29":                              api.ErrDay,
		"2001-12-99":                               api.ErrDay,
	} {
		checkParse(t, s, api.Civil{}, want)
	}
}

// P6.6: texts that no numbers have, also where year, month or day would not be
// right either.
func TestParseRefusesForms(t *testing.T) {
	for _, s := range []string{
		"", "-", "--", "---", "-----", "2", "2000", "2000-", "2000-01", "2000-01-", "-2000", "-2000-01", "2000-001", "2000-060",
		"5-06-07", "50-06-07", "500-06-07", "-5-06-07", "-500-06-07", "-06-07", "--06-07", "06-07", "01-01",
		"00005-06-07", "02000-01-01", "-02000-01-01", "00000-01-01", "000000000000000000000000-01-01", "-00001-01-01",
		"-0000-01-01", "-00000-01-01", "-0-01-01", "-000-01-01",
		"2001-2-03", "2001-02-3", "2001-002-03", "2001-02-003", "2001--2-03", "2001-02--3", "2001--02-03", "2001-02--03",
		"2001-+2-03", "2001-02-+3", "2001- 2-03", "2001-02- 3", "2001-2 -03", "2001-0x-03", "2001-02-0x", "2001-0X-03", "2001-02-XX",
		"+2001-02-03", "--2001-02-03", "-+2001-02-03", "+-2001-02-03", "---2001-02-03", "-+201-02-03",
		"--01-02-03", "0-01-02-03", "00-1-02-03", "000--02-03", "000-1-02-03", "-00-1-02-03", "-0-01-02-03", "1-00-02-03", "--201-02-03",
		" 2001-02-03", "2001-02-03 ", "2001-02-03-", "-2001-02-03-", "2001-02-03-04", "2001-02-03\n", "2001-02-03\x00", "\x002001-02-03",
		"20010203", "2001/02/03", "2001.02.03", "2001_02_03", "2001-02.03", "2001.02-03", "2001-0203", "200102-03", "2001:02-03",
		"2_001-02-03", "2,001-02-03", "20x1-02-03", "2e10-02-03", "0x10-02-03", "1e99-02-03", "Y2001-02-03", "200X-02-03",
		"2001\u221202\u221203", "\u22122001-02-03", "\u0662\u0660\u0660\u0661-02-03", "2001-\u0660\u0662-03", "2001-02-\u0663", "2001-02-\uff13", "\uff12001-02-03",
		"2001\xff-02-03", "2001-\xff2-03", "2001-02-\xff\xff", "\xff\xff\xff\xff-\xff\xff-\xff\xff",
		"99999999999999999999-1-01", "99999999999999999999-01-1", "99999999999999999999-01", "099999999999999999999-01-01", "-099999999999999999999-01-01",
		"99999999999999999999x-01-01", "99999999999999999999-x1-01", "99999999999999999999-13-0x", "2001-13-1", "2001-99-x9", "02001-13-32", "-0000-13-32",
		strings.Repeat("0", 5000) + "-01-01", strings.Repeat("-", 5000), strings.Repeat("1", 5000), strings.Repeat("-01", 5000), "2001-01-" + strings.Repeat("0", 5000) + "1",
	} {
		checkParse(t, s, api.Civil{}, api.ErrForm)
	}
}

// read says what a text must be read as, in another way than the package does:
// it parts the text at its minus signs, and writes again what it reads.
func read(s string) (api.Civil, api.Errno) {
	parts := strings.Split(strings.TrimPrefix(s, "-"), "-")
	if len(parts) != 3 || len(parts[1]) != 2 || len(parts[2]) != 2 || parts[0] == "" || !allDigits(strings.Join(parts, "")) {
		return api.Civil{}, api.ErrForm
	}
	var n [3]*big.Int
	for i, p := range parts {
		n[i], _ = new(big.Int).SetString(p, 10)
	}
	again := n[0].String()
	for len(again) < 4 {
		again = "0" + again
	}
	neg := s[0] == '-'
	if again != parts[0] || neg && n[0].Sign() == 0 {
		return api.Civil{}, api.ErrForm
	}
	if n[0].Cmp(big.NewInt(api.MaxYear)) > 0 {
		return api.Civil{}, api.ErrYear
	}
	c := api.Civil{Year: n[0].Int64(), Month: int(n[1].Int64()), Day: int(n[2].Int64())}
	if neg {
		c.Year = -c.Year
	}
	if c.Month < 1 || c.Month > 12 {
		return api.Civil{}, api.ErrMonth
	}
	if c.Day < 1 || c.Day > length(c.Year, c.Month) {
		return api.Civil{}, api.ErrDay
	}
	return c, api.OK
}

// P6.6: all texts that two edits make of a few texts: exactly those are
// accepted that numbers have.
func TestParseAcceptsOneFormOnly(t *testing.T) {
	texts := []string{"2000-02-29", "-0001-12-31", "0010-01-10", "10000-11-09", "-9223372036854775808-01-01"}
	for s := range trials.Near("0123459-+ /:.xX\x00\xff", 2, texts...) {
		want, refused := read(s)
		checkParse(t, s, want, refused)
	}
}

// P6.6: all short texts over a few bytes.
func TestParseShortTexts(t *testing.T) {
	for _, s := range trials.Short("01-+x", 7) {
		for _, whole := range []string{s, s + "-01-01", "0001-01-" + s, "-0001-" + s} {
			want, refused := read(whole)
			checkParse(t, whole, want, refused)
		}
	}
}

// P6.6: all months and days of two digits, in years that are right or not.
func TestParseAllNumbers(t *testing.T) {
	for _, year := range []string{"0000", "1900", "2000", "-0004", "2001", "10000000000000000", "10000000000000001", "-10000000000000000", "-10000000000000001", "99999999999999999999"} {
		for m := range 100 {
			for d := range 100 {
				s := year + write(api.Civil{Month: m, Day: d})[4:]
				want, refused := read(s)
				checkParse(t, s, want, refused)
			}
		}
	}
}

// P6.6: the chapter's examples.
func TestTextExamples(t *testing.T) {
	for s, want := range map[string]api.Errno{
		"5-06-07":     api.ErrForm,
		"-0000-01-01": api.ErrForm,
		"2001-02-29":  api.ErrDay,
		"2001-2-03":   api.ErrForm,
	} {
		checkParse(t, s, api.Civil{}, want)
	}
	checkParse(t, "0005-06-07", api.Civil{Year: 5, Month: 6, Day: 7}, api.OK)
}
