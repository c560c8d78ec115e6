package runsets

import (
	"cmp"
	"strings"

	"circa/api"
	"circa/runs"
)

const (
	none    = "none" // the text of the empty set
	between = ","    // stands between the texts of two runs
)

// Text returns the text of a set: the error of Check. It is never ErrLimit: the
// text of a run has at most 42 bytes, so that those of MaxRuns runs are far
// shorter than MaxText bytes.
func Text(l []api.Run) (string, api.Errno) {
	if err := Check(l); err != api.OK {
		return "", err
	}
	if len(l) == 0 {
		return none, api.OK
	}
	texts := make([]string, len(l))
	for i, r := range l {
		texts[i], _ = runs.Text(r) // all runs are right
	}
	return strings.Join(texts, between), api.OK
}

// Parse returns the set with a text: ErrLimit if the text is too long, then
// ErrForm if a part of it is not of the form of a run, then the first other
// error of runs.Parse, then the error of Check.
func Parse(s string) ([]api.Run, api.Errno) {
	if len(s) > api.MaxText {
		return nil, api.ErrLimit
	}
	if s == none {
		return nil, api.OK
	}
	var l []api.Run
	refused := api.OK
	for part := range strings.SplitSeq(s, between) {
		r, err := runs.Parse(part)
		if err == api.ErrForm {
			return nil, err
		}
		refused = cmp.Or(refused, err)
		l = append(l, r)
	}
	if err := cmp.Or(refused, Check(l)); err != api.OK {
		return nil, err
	}
	return cut(l), api.OK
}
