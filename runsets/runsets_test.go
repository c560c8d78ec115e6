package runsets

import (
	"maps"
	"math"
	"slices"
	"testing"

	"circa/api"
	"circa/ends"
	"circa/runs"
)

// checkSet holds a result of runs against what it must be: those runs, without
// spare capacity, or none of them with an error.
func checkSet(t *testing.T, name string, l []api.Run, err api.Errno, want []api.Run, refused api.Errno) {
	if !slices.Equal(l, want) || err != refused || cap(l) != len(l) {
		t.Helper()
		t.Errorf("%s = %.200s (%d runs, capacity %d), %d; want %.200s, %d", name, text(l), len(l), cap(l), err, text(want), refused)
	}
}

func checkCheck(t *testing.T, l []api.Run, want api.Errno) {
	if err := Check(l); err != want {
		t.Helper()
		t.Errorf("Check(%.200s) = %d; want %d", text(l), err, want)
	}
}

func checkOf(t *testing.T, l, want []api.Run, refused api.Errno) {
	t.Helper()
	got, err := Of(l)
	checkSet(t, "Of("+text(l)+")", got, err, want, refused)
}

func checkCount(t *testing.T, l []api.Run, want int64, refused api.Errno) {
	if n, err := Count(l); n != want || err != refused {
		t.Helper()
		t.Errorf("Count(%.200s) = %d, %d; want %d, %d", text(l), n, err, want, refused)
	}
}

func checkEnds(t *testing.T, l []api.Run, lo, hi api.End, refused api.Errno) {
	if x, err := Min(l); x != lo || err != refused {
		t.Helper()
		t.Errorf("Min(%.200s) = %v, %d; want %v, %d", text(l), x, err, lo, refused)
	}
	if x, err := Max(l); x != hi || err != refused {
		t.Helper()
		t.Errorf("Max(%.200s) = %v, %d; want %v, %d", text(l), x, err, hi, refused)
	}
}

// P10.1, P10.2, P10.5: of all sets of parts of the line.
func TestSets(t *testing.T) {
	for _, x := range sets() {
		l := x.runs()
		checkCheck(t, l, api.OK)
		checkOf(t, l, l, api.OK)
		n, refused := x.count()
		checkCount(t, l, n, refused)
		if x == 0 {
			checkEnds(t, l, api.End{}, api.End{}, api.ErrEmpty)
		} else {
			checkEnds(t, l, l[0].Lo, l[len(l)-1].Hi, api.OK)
		}
		for i, part := range parts() {
			for _, end := range []api.End{part.Lo, part.Hi} {
				if end.Inf == 0 && Has(l, end.Day) != x.has(i) {
					t.Errorf("Has(%s, %d) = %t", text(l), end.Day, !x.has(i))
				}
			}
		}
	}
}

// P10.1, P10.2, P10.7: all lists of up to three runs from part to part of the
// line, in any order, some of them not right.
func TestLists(t *testing.T) {
	covers := covered()
	some := slices.AppendSeq(wrong(), maps.Keys(covers))
	check := func(l ...api.Run) {
		checkCheck(t, l, flaw(l))
		x, refused := set(0), api.OK
		for i := len(l) - 1; i >= 0; i-- {
			x |= covers[l[i]]
			if err := runs.Check(l[i]); err != api.OK {
				refused = err
			}
		}
		want := x.runs()
		if refused != api.OK {
			want = nil
		}
		checkOf(t, l, want, refused)
		for i, part := range parts() {
			if part.Lo.Inf == 0 && (Has(l, part.Lo.Day) != x.has(i) || Has(l, part.Hi.Day) != x.has(i)) {
				t.Errorf("Has(%v, %v) is not %t", l, part, x.has(i))
			}
		}
	}
	check()
	for _, a := range some {
		check(a)
		for _, b := range some {
			check(a, b)
			for _, c := range some {
				check(a, b, c)
			}
		}
	}
}

// P10.1: which error counts: ErrLimit, then that of the first run with one.
func TestCheckOrder(t *testing.T) {
	none := api.Run{Lo: api.End{Inf: 1}, Hi: ends.Of(3)}
	noEnd := api.Run{Lo: api.End{Inf: 2}}
	checkCheck(t, []api.Run{run(1, 2), run(2, 1), run(0, 0)}, api.ErrOrder)
	checkCheck(t, []api.Run{run(1, 2), none, run(2, 1)}, api.ErrRange)
	checkCheck(t, []api.Run{run(1, 2), run(0, 0), none}, api.ErrOrder)
	checkCheck(t, []api.Run{run(5, 6), run(0, 0), noEnd}, api.ErrOrder)
	checkCheck(t, []api.Run{run(5, 6), noEnd, run(0, 0)}, api.ErrForm)
	checkCheck(t, []api.Run{none, noEnd}, api.ErrRange)
	checkCheck(t, []api.Run{noEnd, none}, api.ErrForm)
	checkCheck(t, []api.Run{run(5, 6), run(5, 6)}, api.ErrOrder)
	checkCheck(t, []api.Run{run(5, 6), run(1, 3)}, api.ErrOrder)
	checkCheck(t, []api.Run{run(5, 6), run(1, 4)}, api.ErrOrder)
	checkCheck(t, []api.Run{run(5, 6), run(7, 8)}, api.ErrOrder)
	checkCheck(t, []api.Run{run(5, 6), run(8, 8)}, api.OK)
	checkCheck(t, []api.Run{since(5), run(math.MaxInt64, math.MaxInt64)}, api.ErrOrder)
	checkCheck(t, []api.Run{run(5, math.MaxInt64), run(math.MinInt64, 0)}, api.ErrOrder)
	checkCheck(t, []api.Run{run(math.MinInt64, 0), run(2, math.MaxInt64)}, api.OK)
}

// P10.1: the limit counts runs of the list, whatever they are.
func TestLimit(t *testing.T) {
	most := spread(api.MaxRuns, -4096, 1, 2)
	checkCheck(t, most, api.OK)
	checkOf(t, most, most, api.OK)
	checkCheck(t, append(slices.Clone(most), run(9999, 9999)), api.ErrLimit)
	checkOf(t, append(slices.Clone(most), run(9999, 9999)), nil, api.ErrLimit)
	checkCheck(t, make([]api.Run, api.MaxRuns+1), api.ErrLimit)
	checkOf(t, make([]api.Run, api.MaxRuns+1), nil, api.ErrLimit)
	checkOf(t, make([]api.Run, api.MaxRuns), []api.Run{run(0, 0)}, api.OK)
	for _, r := range wrong() {
		checkCheck(t, slices.Repeat([]api.Run{r}, api.MaxRuns+1), api.ErrLimit)
		checkOf(t, slices.Repeat([]api.Run{r}, api.MaxRuns+1), nil, api.ErrLimit)
		checkCheck(t, append(slices.Clone(most[1:]), r), runs.Check(r))
		checkOf(t, append(slices.Clone(most[1:]), r), nil, runs.Check(r))
	}
	checkCheck(t, append(slices.Clone(most[1:]), most[0]), api.ErrOrder)
	checkOf(t, append(slices.Clone(most[1:]), most[0]), most, api.OK)
}

// P10.1, P10.7: many runs in several orders, of which only some touch.
func TestOfOrders(t *testing.T) {
	l := slices.Concat(spread(600, 0, 1, 2), spread(400, 1000, 5, 4), spread(300, -900, 2, 3), spread(50, -5000, 9, 100), spread(10, -5000, 1000, 2000))
	l = append(l, since(20000), since(19000), run(18998, 18998), until(-6000), until(-6000), until(-5999))
	days := map[int64]bool{}
	for _, r := range l {
		if r.Lo.Inf == 0 && r.Hi.Inf == 0 {
			for n := r.Lo.Day; n <= r.Hi.Day; n++ {
				days[n] = true
			}
		}
	}
	want := []api.Run{until(-5999)}
	for n := int64(-5998); n < 19000; n++ {
		switch {
		case !days[n]:
		case days[n-1]:
			want[len(want)-1].Hi = ends.Of(n)
		default:
			want = append(want, run(n, n))
		}
	}
	want = append(want, since(19000))
	for step := range 7 {
		checkOf(t, l, want, api.OK)
		slices.Reverse(l[step*100:])
		slices.Reverse(l)
		for i := range len(l) / 2 {
			j := len(l) - 1 - i*(step+1)%len(l)
			l[i], l[j] = l[j], l[i]
		}
	}
}

// P10.2: lists of any length and order, with runs that are not right.
func TestHas(t *testing.T) {
	l := append(wrong(), slices.Repeat(wrong(), 1000)...)
	l = append(l, run(5, 9), run(7, 7), until(-100), run(5, 9))
	for n, want := range map[int64]bool{-101: true, -100: true, -99: false, 0: false, 1: false, 4: false, 5: true, 9: true, 10: false, math.MinInt64: true, math.MaxInt64: false} {
		if Has(l, n) != want {
			t.Errorf("Has(.., %d) = %t", n, !want)
		}
	}
	if Has(nil, 0) || Has([]api.Run{}, 0) || Has(wrong(), 0) || Has(wrong(), math.MinInt64) || Has(wrong(), math.MaxInt64) {
		t.Error("a day of no run")
	}
}

// P10.2: all runs and all their places count, whether they are right or not.
func TestSame(t *testing.T) {
	lists := [][]api.Run{
		nil, {{}}, {{}, {}}, {run(1, 2)}, {run(1, 3)}, {run(0, 2)}, {run(1, 2), run(4, 5)}, {run(4, 5), run(1, 2)}, {run(1, 2), run(4, 6)}, {run(1, 2), run(4, 5), run(7, 7)},
		{run(1, 1), run(2, 2)}, {run(2, 1)}, {since(1)}, {until(1)}, {{Lo: api.End{Inf: 5, Day: 1}}}, {{Lo: api.End{Inf: 5, Day: 2}}}, {{Lo: api.End{Inf: 6, Day: 1}}},
		make([]api.Run, api.MaxRuns+1), make([]api.Run, api.MaxRuns+2),
	}
	for i, a := range lists {
		for j, b := range lists {
			if Same(a, slices.Clone(b)) != (i == j) {
				t.Errorf("Same(%.80s, %.80s) = %t", text(a), text(b), i != j)
			}
		}
	}
	if !Same(nil, []api.Run{}) || !Same([]api.Run{}, nil) {
		t.Error("nil and empty differ")
	}
}

// P10.5: ErrNone ahead of ErrOverflow, and both behind the errors of Check.
func TestCount(t *testing.T) {
	half := run(math.MinInt64, -1)
	checkCount(t, nil, 0, api.OK)
	checkCount(t, []api.Run{half}, 0, api.ErrOverflow)
	checkCount(t, []api.Run{half, since(1)}, 0, api.ErrNone)
	checkCount(t, []api.Run{until(-1), run(1, math.MaxInt64)}, 0, api.ErrNone)
	checkCount(t, []api.Run{half, run(-1, 3)}, 0, api.ErrOrder)
	checkCount(t, []api.Run{half, since(0)}, 0, api.ErrOrder)
	checkCount(t, []api.Run{run(math.MinInt64, -2)}, math.MaxInt64, api.OK)
	checkCount(t, []api.Run{run(math.MinInt64, -2), run(0, 0)}, 0, api.ErrOverflow)
	checkCount(t, []api.Run{run(math.MinInt64, -3), run(0, 0)}, math.MaxInt64, api.OK)
	checkCount(t, []api.Run{run(-5, -4), run(1, math.MaxInt64-2)}, math.MaxInt64, api.OK)
	checkCount(t, []api.Run{run(-5, -4), run(1, math.MaxInt64-1)}, 0, api.ErrOverflow)
	checkCount(t, []api.Run{half, run(1, math.MaxInt64)}, 0, api.ErrOverflow)
	checkCount(t, []api.Run{all()}, 0, api.ErrNone)
	checkCount(t, spread(api.MaxRuns, 0, 3, 5), 3*api.MaxRuns, api.OK)
}

// P10.5: what Check refuses has neither ends nor days.
func TestNoSets(t *testing.T) {
	lists := [][]api.Run{{run(1, 2), run(3, 4)}, {run(5, 6), run(1, 2)}, {since(0), until(-5)}, make([]api.Run, api.MaxRuns+1)}
	for _, r := range wrong() {
		lists = append(lists, []api.Run{r}, []api.Run{run(-7, -7), r})
	}
	for _, l := range lists {
		checkCount(t, l, 0, flaw(l))
		checkEnds(t, l, api.End{}, api.End{}, flaw(l))
		if flaw(l) == api.OK {
			t.Errorf("%v is right", l)
		}
	}
	for _, l := range [][]api.Run{nil, {}} {
		checkEnds(t, l, api.End{}, api.End{}, api.ErrEmpty)
	}
}
