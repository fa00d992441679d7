package patch_test

import (
	"maps"
	"math"
	"slices"
	"testing"

	"tinker/api"
	"tinker/patch"
	"tinker/sample"
)

func six() []api.Line { return sample.Six() }

// set is a line that sets the register 0.
func set(n int) api.Line { return api.Line{Op: api.Set, A: n} }

// double adds the register 0 to itself.
func double() api.Line { return api.Line{Op: api.Add} }

// one is a patch of one edit.
func one(at int, l api.Line) []api.Edit { return []api.Edit{{At: at, Line: l}} }

// sets is a patch that sets the register 0 to its place, at each of the places.
func sets(places ...int) []api.Edit {
	var x []api.Edit
	for _, at := range places {
		x = append(x, api.Edit{At: at, Line: set(min(at, 9))})
	}
	return x
}

// wants is a test from the state of zeros.
func wants(out, want int) api.Test {
	return api.Test{In: sample.Zeros(), Out: out, Want: want}
}

// wrongPatches are no patches, by the error for them.
func wrongPatches() map[api.Errno][][]api.Edit {
	list := [][]api.Edit{
		sets(0, 0), sets(1, 0), sets(0, 1, 1), sets(0, 2, 1, 3), sets(4, 5, 6, 8), sets(-1, 0, 1, 2), sets(3, 3, 3, 3),
		append(sets(0, 1, 2), one(3, sample.BadLine())...), append(one(0, set(-10)), sets(7)...),
	}
	for _, at := range []int{math.MinInt, -1, 8, 9, math.MaxInt} {
		list = append(list, sets(at))
	}
	for _, l := range []api.Line{
		sample.BadLine(), {Op: -1}, {To: 1}, {A: 1}, {B: 1}, set(10), set(-10), {Op: api.Set, To: 4}, {Op: api.Set, B: 1}, {Op: api.Copy, A: 4},
		{Op: api.Copy, A: -1}, {Op: api.Add, B: 4}, {Op: api.Skip, To: 0}, {Op: api.Skip, To: 9}, {Op: math.MinInt, To: math.MaxInt},
	} {
		list = append(list, one(0, l), one(7, l))
	}
	return map[api.Errno][][]api.Edit{
		api.ErrArg:   list,
		api.ErrLarge: {sets(0, 1, 2, 3, 4), sets(0, 1, 2, 3, 3), sets(9, 8, 7, 6, 5), make([]api.Edit, 5), make([]api.Edit, 5000), append(sets(0, 1, 2, 3), one(4, sample.BadLine())...)},
	}
}

func TestValidate(t *testing.T) {
	for _, x := range [][]api.Edit{
		nil, {}, sets(0), sets(7), sets(0, 7), sets(0, 1, 2, 3), sets(4, 5, 6, 7), one(0, api.Line{}), one(7, set(-9)), one(3, api.Line{Op: api.Skip, To: 8, A: 3, B: 3}),
	} {
		if e := patch.Validate(x); e != api.OK {
			t.Error("P4.1:", x, e)
		}
	}
	for want, list := range wrongPatches() {
		for _, x := range list {
			if e := patch.Validate(x); e != want {
				t.Error("P4.1:", x, e)
			}
		}
	}
}

// calls are the functions with a program and a patch, each with the number of items that are not zero in its other results.
func calls(l []api.Test) map[string]func(p []api.Line, x []api.Edit) (int, api.Errno) {
	type call = func(p []api.Line, x []api.Edit) (int, api.Errno)
	some := func(is bool) int {
		if is {
			return 1
		}
		return 0
	}
	ofTests := func(f func([]api.Line, []api.Edit, []api.Test) ([]int, api.Errno)) call {
		return func(p []api.Line, x []api.Edit) (int, api.Errno) { set, e := f(p, x, l); return len(set), e }
	}
	is := func(f func([]api.Line, []api.Edit, []api.Test) (bool, api.Errno)) call {
		return func(p []api.Line, x []api.Edit) (int, api.Errno) { is, e := f(p, x, l); return some(is), e }
	}
	ofEdits := func(f func([]api.Line, []api.Edit) ([]api.Edit, api.Errno)) call {
		return func(p []api.Line, x []api.Edit) (int, api.Errno) { y, e := f(p, x); return len(y), e }
	}
	return map[string]call{
		"Do":        func(p []api.Line, x []api.Edit) (int, api.Errno) { q, e := patch.Do(p, x); return len(q), e },
		"Inverse":   ofEdits(patch.Inverse),
		"Clean":     ofEdits(patch.Clean),
		"Size":      patch.Size,
		"Fixes":     ofTests(patch.Fixes),
		"Breaks":    ofTests(patch.Breaks),
		"IsGood":    is(patch.IsGood),
		"IsMinimal": is(patch.IsMinimal),
		"Reduce": ofEdits(func(p []api.Line, x []api.Edit) ([]api.Edit, api.Errno) {
			return patch.Reduce(p, x, l)
		}),
		"Smallest": func(p []api.Line, x []api.Edit) (int, api.Errno) {
			y, is, e := patch.Smallest(p, x, l)
			return len(y) + some(is), e
		},
	}
}

// refuse calls all functions with a program and a patch; those named in but are left out.
func refuse(t *testing.T, p []api.Line, x []api.Edit, l []api.Test, want api.Errno, but ...string) {
	t.Helper()
	for name, call := range calls(l) {
		if slices.Contains(but, name) {
			continue
		}
		if n, e := call(p, x); e != want || n != 0 {
			t.Errorf("P4.1, R3: %s of %v, %v, %v: %d items, %d instead of %d", name, p, x, l, n, e, want)
		}
	}
}

// withoutTests are the functions that have none.
func withoutTests() []string { return []string{"Do", "Inverse", "Clean", "Size"} }

// TestErrors: errors of the program, then those of the patch, then those of the tests, and then the places that the program does not have.
func TestErrors(t *testing.T) {
	bad, many, wrong := []api.Line{sample.BadLine()}, make([]api.Test, 9), []api.Test{wants(0, 6), wants(4, 0)}
	for _, l := range [][]api.Test{nil, {wants(0, 7)}, wrong, many} {
		for _, list := range append(slices.Collect(maps.Values(wrongPatches())), [][]api.Edit{nil, sets(0), sets(7)}) {
			for _, x := range list {
				refuse(t, sample.TooLong(), x, l, api.ErrLarge)
				refuse(t, bad, x, l, api.ErrArg)
			}
		}
		for want, list := range wrongPatches() {
			for _, x := range list {
				refuse(t, six(), x, l, want)
				refuse(t, nil, x, l, want)
			}
		}
	}
	for _, x := range [][]api.Edit{nil, sets(0), sets(2), sets(7)} {
		refuse(t, six(), x, many, api.ErrLarge, withoutTests()...)
		refuse(t, six(), x, wrong, api.ErrArg, withoutTests()...)
		refuse(t, six(), x, []api.Test{{}}, api.ErrArg, withoutTests()...)
		refuse(t, six(), x, []api.Test{wants(0, 1000)}, api.ErrArg, withoutTests()...)
	}
	for _, l := range [][]api.Test{nil, {wants(0, 6)}, {wants(0, 7)}} {
		for _, x := range [][]api.Edit{sets(2), sets(7), sets(0, 2), sets(0, 1, 2), sets(4, 5, 6, 7)} {
			refuse(t, six(), x, l, api.ErrNone)
			refuse(t, nil, x, l, api.ErrNone)
		}
		refuse(t, nil, sets(0), l, api.ErrNone)
		refuse(t, make([]api.Line, 7), sets(7), l, api.ErrNone)
	}
}

// TestErrorsOfPatches: functions with patches alone; all errors of the first patch come before those of the second one.
func TestErrorsOfPatches(t *testing.T) {
	for want, list := range wrongPatches() {
		for _, x := range list {
			if set, e := patch.Touches(x); e != want || len(set) != 0 {
				t.Error("P4.1: Touches:", x, set, e)
			}
			for _, places := range [][]int{nil, {0, 1}, {1, 0}, {8}} {
				if y, e := patch.Keep(x, places); e != want || len(y) != 0 {
					t.Error("P4.1: Keep:", x, places, y, e)
				}
			}
			for _, other := range [][]api.Edit{nil, sets(0, 1, 2, 3), sets(4, 5, 6, 7), sets(8), make([]api.Edit, 5)} {
				refusePair(t, x, other, want)
			}
			for _, other := range [][]api.Edit{nil, sets(0, 1, 2, 3), sets(4, 5, 6, 7)} {
				refusePair(t, other, x, want)
			}
		}
	}
}

// refusePair calls both functions with two patches.
func refusePair(t *testing.T, x, y []api.Edit, want api.Errno) {
	t.Helper()
	if z, e := patch.Then(x, y); e != want || len(z) != 0 {
		t.Error("P4.1, R2: Then:", x, y, z, e)
	}
	if z, e := patch.Merge(x, y); e != want || len(z) != 0 {
		t.Error("P4.1, R2: Merge:", x, y, z, e)
	}
}

// TestErrorsOfPrograms: functions with programs alone; all errors of one come before those of the next one.
func TestErrorsOfPrograms(t *testing.T) {
	bad, long := []api.Line{sample.BadLine()}, sample.TooLong()
	for _, x := range []struct {
		p, q, r []api.Line
		want    api.Errno
	}{
		{bad, long, long, api.ErrArg}, {long, bad, bad, api.ErrLarge}, {nil, bad, long, api.ErrArg}, {nil, long, bad, api.ErrLarge}, {six(), bad, nil, api.ErrArg},
	} {
		if y, e := patch.Diff(x.p, x.q); e != x.want || len(y) != 0 {
			t.Error("R2: Diff:", x, y, e)
		}
		if q, set, e := patch.Three(x.p, x.q, x.r); e != x.want || len(q) != 0 || len(set) != 0 {
			t.Error("R2: Three:", x, q, set, e)
		}
		if q, set, e := patch.Three(six(), x.p, x.q); e != x.want || len(q) != 0 || len(set) != 0 {
			t.Error("R2: Three:", x, q, set, e)
		}
	}
}

// TestMemory: a result shares no memory with an argument or with another result, and no argument is changed.
func TestMemory(t *testing.T) {
	p, x, y, l, places := six(), sets(0, 1), sets(1), []api.Test{wants(0, 1), wants(0, 6)}, []int{0, 1}
	for range 2 {
		do, _ := patch.Do(p, nil)
		done, _ := patch.Do(p, x)
		three, conflicts, _ := patch.Three(p, done, nine())
		inverse, _ := patch.Inverse(p, x)
		diff, _ := patch.Diff(p, done)
		clean, _ := patch.Clean(p, x)
		then, _ := patch.Then(x, y)
		alone, _ := patch.Then(x, nil)
		merge, _ := patch.Merge(nil, x)
		keep, _ := patch.Keep(x, places)
		reduce, _ := patch.Reduce(p, x, l[:1])
		whole, _ := patch.Reduce(p, y, l[:1])
		least, _, _ := patch.Smallest(p, y, l[:1])
		smallest, _, _ := patch.Smallest(p, x, l[:1])
		for _, list := range [][]api.Line{do, done, three} {
			if !sample.SpoilWith(list, sample.BadLine()) {
				t.Error("R5: a result is shared or empty:", list)
			}
		}
		for _, list := range [][]api.Edit{inverse, diff, clean, then, alone, merge, keep, reduce, whole, smallest, least} {
			if !sample.SpoilWith(list, api.Edit{At: 77}) {
				t.Error("R5: a result is shared or empty:", list)
			}
		}
		touches, _ := patch.Touches(x)
		fixes, _ := patch.Fixes(p, x, l)
		breaks, _ := patch.Breaks(p, x, l)
		for _, list := range [][]int{conflicts, touches, fixes, breaks} {
			if !sample.Spoil(list) {
				t.Error("R5: a result is shared or empty:", list)
			}
		}
	}
	if !slices.Equal(p, six()) || !slices.Equal(x, sets(0, 1)) || !slices.Equal(y, sets(1)) || !slices.Equal(places, []int{0, 1}) || !slices.Equal(l[0].In, sample.Zeros()) {
		t.Error("R5: an argument is changed:", p, x, y, l, places)
	}
}

// nine is a program that differs from six() and from what sets(0, 1) makes of it in the line 0.
func nine() []api.Line { return []api.Line{set(9), double()} }
