package runs

import (
	"strings"

	"circa/api"
	"circa/ends"
)

// between is what stands between the texts of the two ends of a run. No text of
// an end has a point.
const between = ".."

// Text returns the text of a run: the error of Check.
func Text(r api.Run) (string, api.Errno) {
	if err := Check(r); err != api.OK {
		return "", err
	}
	texts, _ := each(endsOf(r), ends.Text) // both ends are right
	return texts.lo + between + texts.hi, api.OK
}

// Parse returns the run with a text: ErrForm if the text is not that of two
// integers or infinities, then ErrOverflow if one of the integers does not fit,
// then the error of Check.
func Parse(s string) (api.Run, api.Errno) {
	lo, hi, found := strings.Cut(s, between)
	if !found {
		return api.Run{}, api.ErrForm
	}
	parts, err := each(pair[string]{lo, hi}, ends.Parse)
	if err != api.OK {
		return api.Run{}, err
	}
	return right(runOf(parts))
}
