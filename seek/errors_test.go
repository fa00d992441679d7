package seek_test

import (
	"math"
	"slices"
	"testing"

	"tinker/api"
	"tinker/sample"
	"tinker/seek"
)

// wants is a test from the state of zeros.
func wants(out, want int) api.Test {
	return api.Test{In: sample.Zeros(), Out: out, Want: want}
}

// wrongLines are no lines.
func wrongLines() []api.Line {
	return []api.Line{
		sample.BadLine(), {Op: -1}, {To: 1}, {A: 1}, {B: 1}, set(4, 0), set(-1, 0), set(0, 10), set(0, -10), {Op: api.Set, B: 1}, {Op: api.Copy, A: 4},
		{Op: api.Copy, A: -1}, {Op: api.Add, B: 4}, {Op: api.Skip, To: 0}, {Op: api.Skip, To: 9}, {Op: math.MinInt, To: math.MaxInt, A: math.MaxInt, B: math.MinInt},
	}
}

// wrongPlaces are not the place of a line of a program with two lines.
func wrongPlaces() []int { return []int{math.MinInt, -1, 2, 7, 8, math.MaxInt} }

// wrongKinds are no kinds.
func wrongKinds() []int { return []int{math.MinInt, -1, 3, 4, math.MaxInt} }

// arguments are those of a call, beside the program. Not each function has all of them.
type arguments struct {
	l        []api.Test
	at, kind int
	m        api.Line // the mutant is this line at the place
}

// call calls a function; it returns the number of items that are not zero in the other results.
type call func(p []api.Line, x arguments) (int, api.Errno)

// count counts what is not zero in an edit and in a bool.
func count(x api.Edit, is bool) int {
	n := 0
	if x != (api.Edit{}) {
		n++
	}
	if is {
		n++
	}
	return n
}

// ofPrograms are the functions with a program and no tests.
func ofPrograms() map[string]call {
	return map[string]call{
		"Candidates": func(p []api.Line, x arguments) (int, api.Errno) {
			list, e := seek.Candidates(p, x.at, x.kind)
			return len(list), e
		},
		"Mutants": func(p []api.Line, x arguments) (int, api.Errno) { list, e := seek.Mutants(p); return len(list), e },
	}
}

// ofMutants are the functions of P5.4 with tests.
func ofMutants() map[string]call {
	return map[string]call{
		"Kills": func(p []api.Line, x arguments) (int, api.Errno) {
			list, e := seek.Kills(p, x.l, api.Edit{At: x.at, Line: x.m})
			return len(list), e
		},
		"Alive": func(p []api.Line, x arguments) (int, api.Errno) { list, e := seek.Alive(p, x.l); return len(list), e },
		"Score": func(p []api.Line, x arguments) (int, api.Errno) {
			f, e := seek.Score(p, x.l)
			return f.Num + f.Den, e
		},
		"Enough": func(p []api.Line, x arguments) (int, api.Errno) { list, e := seek.Enough(p, x.l); return len(list), e },
	}
}

// ofRepairs are the functions of P5.3.
func ofRepairs() map[string]call {
	return map[string]call{
		"Fixes": func(p []api.Line, x arguments) (int, api.Errno) {
			list, e := seek.Fixes(p, x.l, x.at, x.kind)
			return len(list), e
		},
		"Count": func(p []api.Line, x arguments) (int, api.Errno) { return seek.Count(p, x.l, x.kind) },
		"Places": func(p []api.Line, x arguments) (int, api.Errno) {
			list, e := seek.Places(p, x.l, x.kind)
			return len(list), e
		},
		"Single": func(p []api.Line, x arguments) (int, api.Errno) {
			edit, some, e := seek.Single(p, x.l, x.kind)
			return count(edit, some), e
		},
		"Double": func(p []api.Line, x arguments) (int, api.Errno) {
			list, some, e := seek.Double(p, x.l)
			return len(list) + count(api.Edit{}, some), e
		},
		"Repair": func(p []api.Line, x arguments) (int, api.Errno) {
			list, kind, some, e := seek.Repair(p, x.l)
			return len(list) + kind + count(api.Edit{}, some), e
		},
	}
}

// refuse calls functions; if names are given, those of these names alone.
func refuse(t *testing.T, calls map[string]call, p []api.Line, x arguments, want api.Errno, names ...string) {
	t.Helper()
	for name, call := range calls {
		if len(names) > 0 && !slices.Contains(names, name) {
			continue
		}
		if n, e := call(p, x); e != want || n != 0 {
			t.Errorf("P5.1, R3: %s of %v, %v: %d items, %d instead of %d", name, p, x, n, e, want)
		}
	}
}

// manyArguments returns arguments of many kinds, right and wrong, with the same tests.
func manyArguments(l []api.Test) []arguments {
	list := []arguments{{l: l, m: set(0, 4)}, {l: l, at: 1, kind: 2, m: api.Line{}}, {l: l, at: 1, kind: 1, m: set(0, 4)}}
	for _, at := range wrongPlaces() {
		list = append(list, arguments{l: l, at: at, m: set(0, 4)})
	}
	for _, kind := range wrongKinds() {
		list = append(list, arguments{l: l, kind: kind, m: set(0, 4)}, arguments{l: l, at: -1, kind: kind, m: sample.BadLine()})
	}
	return list
}

// wrongTests are no tests, with the errors for them.
func wrongTests() map[api.Errno][][]api.Test {
	return map[api.Errno][][]api.Test{
		api.ErrArg:   {{{}}, {wants(0, 7), wants(4, 0)}, {wants(0, 1000), wants(0, 7)}, {{In: []int{0, 0, 0, 1000}}}},
		api.ErrLarge: {make([]api.Test, 9), make([]api.Test, 1000)},
	}
}

// TestErrorsOfProgramsAndTests: those of the program come first, then those of the tests, and then all others.
func TestErrorsOfProgramsAndTests(t *testing.T) {
	bad := []api.Line{set(0, 3), sample.BadLine()}
	for _, list := range append(wrongTests()[api.ErrArg], wrongTests()[api.ErrLarge][0], nil, []api.Test{wants(0, 7)}, []api.Test{wants(0, 6)}) {
		for _, x := range manyArguments(list) {
			for _, calls := range []map[string]call{ofPrograms(), ofMutants(), ofRepairs()} {
				refuse(t, calls, sample.TooLong(), x, api.ErrLarge)
				refuse(t, calls, append(sample.TooLong(), bad...), x, api.ErrLarge)
				refuse(t, calls, bad, x, api.ErrArg)
			}
		}
	}
	for want, lists := range wrongTests() {
		for _, list := range lists {
			for _, x := range manyArguments(list) {
				for _, p := range [][]api.Line{nil, six(), {{}}} {
					refuse(t, ofMutants(), p, x, want)
					refuse(t, ofRepairs(), p, x, want)
				}
			}
		}
	}
}

// someTests are tests that six() passes, and some that it does not.
func someTests() [][]api.Test {
	return [][]api.Test{nil, {wants(0, 6)}, {wants(0, 7)}, {wants(0, 6), wants(0, 7)}}
}

// TestErrNone: a place without a line comes before the errors of the kind, of the mutant and of the state.
func TestErrNone(t *testing.T) {
	for _, l := range someTests() {
		for _, at := range wrongPlaces() {
			for _, kind := range append(wrongKinds(), 0, 1, 2) {
				x := arguments{l: l, at: at, kind: kind}
				refuse(t, ofPrograms(), six(), x, api.ErrNone, "Candidates")
				refuse(t, ofRepairs(), six(), x, api.ErrNone, "Fixes")
			}
			for _, m := range append(wrongLines(), api.Line{}, set(0, 4), set(0, 5)) {
				refuse(t, ofMutants(), six(), arguments{l: l, at: at, m: m}, api.ErrNone, "Kills")
			}
		}
		x := arguments{l: l, kind: 3, m: sample.BadLine()}
		refuse(t, ofPrograms(), nil, x, api.ErrNone, "Candidates")
		refuse(t, ofRepairs(), nil, x, api.ErrNone, "Fixes")
		refuse(t, ofMutants(), nil, x, api.ErrNone, "Kills")
		full := make([]api.Line, 8)
		refuse(t, ofPrograms(), full, arguments{l: l, at: 8, kind: 3}, api.ErrNone, "Candidates")
	}
}

// TestErrArg: a wrong kind comes before the error of the state; a mutant must be a template of its place.
func TestErrArg(t *testing.T) {
	for _, l := range someTests() {
		for _, kind := range wrongKinds() {
			for at := range 2 {
				x := arguments{l: l, at: at, kind: kind}
				refuse(t, ofPrograms(), six(), x, api.ErrArg, "Candidates")
				refuse(t, ofRepairs(), six(), x, api.ErrArg, "Fixes")
			}
			for _, p := range [][]api.Line{nil, six(), make([]api.Line, 8)} {
				refuse(t, ofRepairs(), p, arguments{l: l, kind: kind}, api.ErrArg, "Count", "Places", "Single")
			}
		}
		for _, m := range append(wrongLines(), set(0, 3), set(0, 5), set(1, 4), double(), api.Line{Op: api.Copy, A: 3}) {
			refuse(t, ofMutants(), six(), arguments{l: l, m: m}, api.ErrArg, "Kills")
		}
		// What is a template of another line is none here; nothing is one of a line of the Op None.
		refuse(t, ofMutants(), six(), arguments{l: l, at: 1, m: set(0, 4)}, api.ErrArg, "Kills")
		refuse(t, ofMutants(), []api.Line{{}}, arguments{l: l}, api.ErrArg, "Kills")
		refuse(t, ofMutants(), []api.Line{{}}, arguments{l: l, m: set(0, 0)}, api.ErrArg, "Kills")
	}
}

// TestErrState: without a failing test there is nothing to repair; without a mutant there is no score.
func TestErrState(t *testing.T) {
	for _, l := range [][]api.Test{nil, {wants(0, 6)}, {wants(0, 6), wants(1, 0), wants(0, 6)}} {
		for kind := range 3 {
			for at := range 2 {
				refuse(t, ofRepairs(), six(), arguments{l: l, at: at, kind: kind}, api.ErrState)
			}
		}
	}
	refuse(t, ofRepairs(), nil, arguments{l: []api.Test{wants(3, 0)}}, api.ErrState, "Count", "Places", "Single", "Double", "Repair")
	for _, p := range [][]api.Line{nil, {{}}, make([]api.Line, 8)} {
		for _, l := range someTests() {
			refuse(t, ofMutants(), p, arguments{l: l}, api.ErrState, "Score")
		}
	}
}

// TestErrorsOfLines: functions with single lines alone; each line must be valid, also where the answer is clear without it.
func TestErrorsOfLines(t *testing.T) {
	for _, l := range wrongLines() {
		if list, e := seek.Templates(l); e != api.ErrArg || len(list) != 0 {
			t.Error("P5.1: Templates:", l, list, e)
		}
		for _, m := range append(wrongLines(), api.Line{}, set(0, 3)) {
			for _, pair := range [][2]api.Line{{l, m}, {m, l}} {
				if is, e := seek.Near(pair[0], pair[1]); e != api.ErrArg || is {
					t.Error("P5.1: Near:", pair, is, e)
				}
			}
		}
	}
}

// TestMemory: a result shares no memory with an argument or with another result, and no argument is changed.
func TestMemory(t *testing.T) {
	p, l := six(), []api.Test{wants(0, 8), wants(0, 8)}
	passed := []api.Test{wants(0, 6), wants(1, 0)}
	for range 2 {
		lists := [][]api.Line{seek.All()}
		keep := func(list []api.Line, _ api.Errno) { lists = append(lists, list) }
		keep(seek.Templates(p[0]))
		for kind := range 3 {
			keep(seek.Candidates(p, 0, kind))
		}
		keep(seek.Fixes(p, l, 0, 0))
		keep(seek.Fixes(p, l, 1, 2))
		for _, list := range lists {
			if !sample.SpoilWith(list, sample.BadLine()) {
				t.Error("R5: a result is shared or empty:", list)
			}
		}
		double, _, _ := seek.Double([]api.Line{set(0, 9), set(1, 9)}, []api.Test{wants(0, 8), wants(1, 8)})
		repair, _, _, _ := seek.Repair(p, l)
		mutants, _ := seek.Mutants(p)
		alive, _ := seek.Alive(p, l)
		for _, list := range [][]api.Edit{double, repair, mutants, alive} {
			if !sample.SpoilWith(list, api.Edit{At: 77}) {
				t.Error("R5: a result is shared or empty:", list)
			}
		}
		places, _ := seek.Places(p, l, 2)
		kills, _ := seek.Kills(p, passed, api.Edit{Line: set(0, 4)})
		enough, _ := seek.Enough(p, passed)
		for _, list := range [][]int{places, kills, enough} {
			if !sample.Spoil(list) {
				t.Error("R5: a result is shared or empty:", list)
			}
		}
	}
	for _, x := range append(l, passed...) {
		if !slices.Equal(x.In, sample.Zeros()) {
			t.Error("R5: an argument is changed:", l, passed)
		}
	}
	if !slices.Equal(p, six()) || l[0].Want != 8 || passed[1].Out != 1 {
		t.Error("R5: an argument is changed:", p, l, passed)
	}
}
