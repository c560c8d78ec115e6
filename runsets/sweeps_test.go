package runsets

import (
	"math"
	"slices"
	"testing"

	"circa/api"
	"circa/ends"
)

// An operation makes a set of two others.
type operation func(a, b []api.Run) ([]api.Run, api.Errno)

// operations are all that make a set, by names. Complement is one of them that
// does not look at its first set.
func operations() map[string]operation {
	return map[string]operation{
		"Union": Union, "Common": Common, "Without": Without,
		"Complement": func(a, b []api.Run) ([]api.Run, api.Errno) { return Complement(b) },
	}
}

func checkWithin(t *testing.T, a, b []api.Run, want bool, refused api.Errno) {
	if is, err := Within(a, b); is != want || err != refused {
		t.Helper()
		t.Errorf("Within(%.200s, %.200s) = %t, %d; want %t, %d", text(a), text(b), is, err, want, refused)
	}
}

func checkComplement(t *testing.T, l, want []api.Run, refused api.Errno) {
	t.Helper()
	got, err := Complement(l)
	checkSet(t, "Complement", got, err, want, refused)
}

// checkThree holds Union, Common and Without of two sets against what they must
// be.
func checkThree(t *testing.T, a, b, union, common, without []api.Run) {
	t.Helper()
	for _, x := range []struct {
		name string
		f    operation
		want []api.Run
	}{{"Union", Union, union}, {"Common", Common, common}, {"Without", Without, without}} {
		l, err := x.f(a, b)
		checkSet(t, x.name, l, err, x.want, api.OK)
	}
}

// P10.3, P10.4, P10.7: of all pairs of sets of parts of the line.
func TestPairs(t *testing.T) {
	lists := map[set][]api.Run{}
	for _, x := range sets() {
		lists[x] = x.runs()
	}
	for x, a := range lists {
		for y, b := range lists {
			checkThree(t, a, b, lists[x|y], lists[x&y], lists[(x&^y).days()])
			checkWithin(t, a, b, x&^y == 0, api.OK)
		}
	}
}

// P10.3, P10.7: a part is in a set or in its complement; the complement of the
// complement is the set, if no run of it ends or begins at an end of the days.
func TestComplements(t *testing.T) {
	for _, x := range sets() {
		checkComplement(t, x.runs(), (full &^ x).days().runs(), api.OK)
		other, _ := Complement(x.runs())
		back, _ := Complement(other)
		atAnEnd := slices.ContainsFunc(x.runs(), func(r api.Run) bool {
			return r.Lo == ends.Of(math.MinInt64) || r.Hi == ends.Of(math.MaxInt64) || r.Hi == ends.Of(math.MinInt64) || r.Lo == ends.Of(math.MaxInt64)
		})
		if !atAnEnd && !Same(back, x.runs()) {
			t.Errorf("%s, but the complement of its complement is %s", text(x.runs()), text(back))
		}
	}
}

// P10.3: nothing is beyond an infinite end whose run is left out.
func TestInfiniteEnds(t *testing.T) {
	early, late := run(math.MinInt64, -1), run(0, math.MaxInt64)
	checkComplement(t, nil, []api.Run{all()}, api.OK)
	checkComplement(t, []api.Run{all()}, nil, api.OK)
	checkComplement(t, []api.Run{late}, []api.Run{until(-1)}, api.OK)
	checkComplement(t, []api.Run{early}, []api.Run{since(0)}, api.OK)
	checkComplement(t, []api.Run{run(math.MinInt64, math.MaxInt64)}, nil, api.OK)
	checkComplement(t, []api.Run{until(math.MaxInt64)}, nil, api.OK)
	checkComplement(t, []api.Run{since(math.MinInt64)}, nil, api.OK)
	checkComplement(t, []api.Run{until(math.MaxInt64 - 1)}, []api.Run{since(math.MaxInt64)}, api.OK)
	checkComplement(t, []api.Run{since(math.MinInt64 + 1)}, []api.Run{until(math.MinInt64)}, api.OK)
	checkComplement(t, []api.Run{until(math.MinInt64), since(math.MaxInt64)}, []api.Run{run(math.MinInt64+1, math.MaxInt64-1)}, api.OK)
	checkThree(t, []api.Run{since(0)}, []api.Run{late}, []api.Run{since(0)}, []api.Run{late}, nil)
	checkThree(t, []api.Run{until(-1)}, []api.Run{early}, []api.Run{until(-1)}, []api.Run{early}, nil)
	checkThree(t, []api.Run{all()}, []api.Run{early, run(1, math.MaxInt64)}, []api.Run{all()}, []api.Run{early, run(1, math.MaxInt64)}, []api.Run{run(0, 0)})
	checkThree(t, []api.Run{early}, []api.Run{late}, []api.Run{run(math.MinInt64, math.MaxInt64)}, nil, []api.Run{early})
	checkWithin(t, []api.Run{since(0)}, []api.Run{late}, false, api.OK)
	checkWithin(t, []api.Run{until(-1)}, []api.Run{early}, false, api.OK)
	checkWithin(t, []api.Run{late}, []api.Run{since(0)}, true, api.OK)
}

// P10.3, P10.4: sets of many runs, day by day.
func TestManyRuns(t *testing.T) {
	lists := [][]api.Run{
		nil, spread(300, 0, 1, 2), spread(300, 1, 1, 2), spread(200, 0, 2, 3), spread(100, 5, 4, 6), spread(7, -20, 50, 90), spread(1, 0, 600, 1),
		append(spread(40, 3, 7, 11), since(500)), append([]api.Run{until(-3)}, spread(60, 0, 3, 10)...), append(append([]api.Run{until(9)}, spread(30, 11, 1, 5)...), since(400)),
	}
	for _, a := range lists {
		for _, b := range lists {
			within := true
			results := map[string][]api.Run{}
			for name, f := range operations() {
				l, err := f(a, b)
				if err != api.OK || flaw(l) != api.OK {
					t.Errorf("%s is %d, of error %d", name, err, flaw(l))
				}
				results[name] = l
			}
			for n := int64(-200); n < 1200; n++ {
				inA, inB := Has(a, n), Has(b, n)
				within = within && (inB || !inA)
				for name, want := range map[string]bool{"Union": inA || inB, "Common": inA && inB, "Without": inA && !inB, "Complement": !inB} {
					if Has(results[name], n) != want {
						t.Fatalf("%s of %.80s and %.80s: the day %d is %t", name, text(a), text(b), n, !want)
					}
				}
			}
			checkWithin(t, a, b, within, api.OK)
		}
	}
}

// P10.3: the error of Check for a, then that for b.
func TestRefusedSets(t *testing.T) {
	lists := [][]api.Run{nil, {run(1, 2)}, {run(1, 2), run(3, 4)}, {run(3, 1)}, {run(7, 7), {Lo: api.End{Inf: 1}}}, {{Lo: api.End{Inf: 2}}}, make([]api.Run, api.MaxRuns+1), spread(api.MaxRuns+1, 0, 1, 2)}
	for _, a := range lists {
		for _, b := range lists {
			refused := flaw(a)
			if refused == api.OK {
				refused = flaw(b)
			}
			if refused == api.OK {
				continue
			}
			checkWithin(t, a, b, false, refused)
			for name, f := range operations() {
				want := refused
				if name == "Complement" {
					want = flaw(b)
				}
				if want != api.OK {
					l, err := f(a, b)
					checkSet(t, name, l, err, nil, want)
				}
			}
		}
	}
}

// checkLimit holds the number of runs of a result against what it must be, if
// that is not above the limit.
func checkLimit(t *testing.T, name string, a, b []api.Run, many int) {
	l, err := operations()[name](a, b)
	refused := api.OK
	if many > api.MaxRuns {
		many, refused = 0, api.ErrLimit
	}
	if len(l) != many || err != refused || flaw(l) != api.OK || cap(l) != len(l) {
		t.Helper()
		t.Errorf("%s: %d runs, %d; want %d, %d", name, len(l), err, many, refused)
	}
}

// P10.3: results of as many runs as the limit says, and of one more.
func TestResultLimits(t *testing.T) {
	const half = api.MaxRuns / 2
	most := spread(api.MaxRuns, 0, 1, 2)
	for _, more := range []int{-1, 0, 1} {
		checkLimit(t, "Union", spread(half, 0, 1, 4), spread(half+more, 2, 1, 4), api.MaxRuns+more)
		checkLimit(t, "Union", spread(half+more, 0, 1, 4), spread(half, 2, 1, 4), api.MaxRuns+more)
		checkLimit(t, "Without", []api.Run{run(-1, 1<<40)}, most[:api.MaxRuns-1+more], api.MaxRuns+more)
		checkLimit(t, "Complement", nil, most[:api.MaxRuns-1+more], api.MaxRuns+more)
	}
	beyond := run(1<<40, 1<<40)
	checkLimit(t, "Common", spread(half, 0, 3, 4), spread(half, 2, 3, 4), api.MaxRuns-1)
	checkLimit(t, "Common", spread(half, 0, 3, 4), spread(half+1, -2, 3, 4), api.MaxRuns)
	checkLimit(t, "Common", append(spread(half, 0, 3, 4), beyond), append(spread(half+1, -2, 3, 4), beyond), api.MaxRuns+1)
	checkLimit(t, "Union", most, spread(api.MaxRuns, 1, 1, 2), 1)
	checkLimit(t, "Union", most, most, api.MaxRuns)
	checkLimit(t, "Union", most, spread(api.MaxRuns, 1<<40, 1, 2), 2*api.MaxRuns)
	checkLimit(t, "Common", most, spread(api.MaxRuns, 1, 1, 2), 0)
	checkLimit(t, "Without", []api.Run{run(0, 1<<40)}, most, api.MaxRuns)
	checkLimit(t, "Without", most, most, 0)
	checkLimit(t, "Complement", nil, append(slices.Clone(most[1:]), since(1<<40)), api.MaxRuns)
	checkLimit(t, "Complement", nil, append(slices.Clone(most[1:]), run(1<<40, math.MaxInt64)), api.MaxRuns)
	checkLimit(t, "Complement", nil, append([]api.Run{run(math.MinInt64, -2)}, most[1:]...), api.MaxRuns)
	checkLimit(t, "Complement", nil, append(append([]api.Run{until(-2)}, most[2:]...), since(1<<40)), api.MaxRuns-1)
}

// P10.4: Within has no limit but those of its arguments.
func TestWithinLimit(t *testing.T) {
	a, b := spread(api.MaxRuns, 0, 3, 4), spread(api.MaxRuns, 2, 3, 4)
	checkLimit(t, "Common", a, b, 2*api.MaxRuns-1)
	checkWithin(t, a, b, false, api.OK)
	checkWithin(t, a, a, true, api.OK)
	checkWithin(t, spread(api.MaxRuns, 1, 1, 4), a, true, api.OK)
	checkWithin(t, a, spread(api.MaxRuns, 1, 1, 4), false, api.OK)
	checkWithin(t, append(spread(api.MaxRuns-1, 1, 1, 4), run(1<<40, 1<<40)), a, false, api.OK)
	checkWithin(t, nil, a, true, api.OK)
	checkWithin(t, a, nil, false, api.OK)
	checkWithin(t, nil, nil, true, api.OK)
}

// R4: results share no memory with arguments, which stay as they are.
func TestMemory(t *testing.T) {
	calls := operations()
	calls["Of"] = func(a, b []api.Run) ([]api.Run, api.Errno) { return Of(a) }
	lists := [][]api.Run{nil, {run(1, 2)}, {run(1, 2), run(5, 9)}, {run(3, 3), since(7)}, {until(4)}, {all()}, {run(5, 6), run(1, 3), run(2, 4)}, spread(50, 0, 2, 3)}
	for _, a := range lists {
		for _, b := range lists {
			for name, f := range calls {
				keptA, keptB := slices.Clone(a), slices.Clone(b)
				one, _ := f(keptA, keptB)
				two, _ := f(keptA, keptB)
				want := slices.Clone(one)
				for i := range one {
					one[i] = run(-7, -7)
				}
				if !Same(keptA, a) || !Same(keptB, b) || !Same(two, want) {
					t.Errorf("%s of %s and %s shares memory", name, text(a), text(b))
				}
			}
		}
	}
}

// P10.7: what follows for any two sets.
func TestConsequences(t *testing.T) {
	lists := [][]api.Run{}
	for i, x := range sets() {
		if i%5 == 0 {
			lists = append(lists, x.runs())
		}
	}
	lists = append(lists, spread(9, -9, 1, 2), spread(9, -10, 1, 2), spread(3, -2, 3, 4), []api.Run{all()})
	for _, a := range lists {
		for _, b := range lists {
			union, _ := Union(a, b)
			common, _ := Common(a, b)
			without, _ := Without(a, b)
			unionBack, _ := Union(b, a)
			commonBack, _ := Common(b, a)
			within, _ := Within(a, b)
			if !Same(union, unionBack) || !Same(common, commonBack) {
				t.Errorf("the order of %s and %s counts", text(a), text(b))
			}
			if within != Same(union, b) || within && len(without) > 0 {
				t.Errorf("Within(%s, %s) = %t", text(a), text(b), within)
			}
		}
	}
}
