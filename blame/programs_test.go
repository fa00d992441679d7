package blame_test

import (
	"math"
	"slices"
	"testing"

	"tinker/api"
	"tinker/blame"
	"tinker/check"
	"tinker/code"
	"tinker/sample"
)

func six() []api.Line { return sample.Six() }

// wants is a test from the state of zeros.
func wants(out, want int) api.Test {
	return api.Test{In: sample.Zeros(), Out: out, Want: want}
}

// mixed makes 6 of the register 0, and 1 of the register 1; the lines 2 and 4 write no register, and the line 5 is not done from zeros.
func mixed() []api.Line {
	return []api.Line{
		{Op: api.Set, To: 0, A: 3}, {Op: api.Add, To: 0, A: 0, B: 0}, {}, {Op: api.Set, To: 1, A: 1},
		{Op: api.Skip, To: 1, A: 2, B: 1}, {Op: api.Set, To: 3, A: 9},
	}
}

// wrongCalls are programs and tests with the error that all functions have for them.
func wrongCalls() []struct {
	p    []api.Line
	l    []api.Test
	want api.Errno
} {
	type call = struct {
		p    []api.Line
		l    []api.Test
		want api.Errno
	}
	bad := []api.Line{sample.BadLine()}
	list := []call{
		{sample.TooLong(), []api.Test{{}}, api.ErrLarge}, {bad, make([]api.Test, 9), api.ErrArg}, {sample.TooLong(), nil, api.ErrLarge}, {bad, []api.Test{wants(0, 8)}, api.ErrArg},
		{six(), make([]api.Test, 9), api.ErrLarge}, {nil, make([]api.Test, 5000), api.ErrLarge},
	}
	for _, wrong := range []api.Test{{}, {In: []int{0, 0, 0}}, {In: []int{0, 0, 0, 1000}}, wants(4, 0), wants(-1, 0), wants(0, 1000), wants(0, -1000), wants(math.MaxInt, math.MinInt)} {
		list = append(list, call{six(), []api.Test{wrong}, api.ErrArg}, call{six(), []api.Test{wants(0, 8), wrong}, api.ErrArg}, call{nil, []api.Test{wrong}, api.ErrArg})
	}
	return list
}

// TestErrorsWithTests: the errors of the program come first, then those of the tests, and then those of the other arguments.
func TestErrorsWithTests(t *testing.T) {
	for _, x := range wrongCalls() {
		if f, e := blame.Slices(x.p, x.l); e != x.want || len(f) != 0 {
			t.Error("P3.1: Slices:", x, f, e)
		}
		if f, e := blame.Diagnoses(x.p, x.l); e != x.want || len(f) != 0 {
			t.Error("P3.1: Diagnoses:", x, f, e)
		}
		for _, size := range []int{1, 2, 0, 3} {
			if f, e := blame.Blamed(x.p, x.l, size); e != x.want || len(f) != 0 {
				t.Error("P3.1: Blamed:", x, size, f, e)
			}
		}
		for _, lines := range [][]int{nil, {0}, {1, 0}, {-1}, {0, 1, 2, 3}} {
			if is, e := blame.IsToBlame(x.p, x.l, lines); e != x.want || is {
				t.Error("P3.1: IsToBlame:", x, lines, is, e)
			}
			if len(x.l) != 1 {
				continue
			}
			if values, some, e := blame.CanPass(x.p, x.l[0], lines); e != x.want || some || len(values) != 0 {
				t.Error("P3.1: CanPass:", x, lines, values, some, e)
			}
			if e := blame.CheckPass(x.p, x.l[0], lines, []int{1000}); e != x.want {
				t.Error("P3.1: CheckPass:", x, lines, e)
			}
		}
	}
}

func TestErrorsOfLines(t *testing.T) {
	passed, failed := wants(0, 6), wants(0, 8)
	for _, x := range []struct {
		p     []api.Line
		lines []int
		want  api.Errno
	}{
		{mixed(), []int{1, 0}, api.ErrArg}, {mixed(), []int{1, 1}, api.ErrArg}, {mixed(), []int{0, 9, 8, 7}, api.ErrArg}, {mixed(), []int{2, 2}, api.ErrArg}, {nil, []int{5, 5}, api.ErrArg}, {mixed(), make([]int, 1000), api.ErrArg},
		{mixed(), []int{6}, api.ErrNone}, {mixed(), []int{-1}, api.ErrNone}, {mixed(), []int{0, 1, 2, 6}, api.ErrNone}, {mixed(), []int{-1, 0, 1}, api.ErrNone}, {mixed(), []int{2, 7}, api.ErrNone}, {nil, []int{0}, api.ErrNone}, {mixed(), []int{math.MinInt, math.MaxInt}, api.ErrNone},
		{mixed(), []int{0, 1, 3}, api.ErrLarge}, {mixed(), []int{0, 1, 2}, api.ErrLarge}, {mixed(), []int{2, 3, 4}, api.ErrLarge}, {mixed(), []int{0, 1, 2, 3, 4, 5}, api.ErrLarge},
		{mixed(), []int{2}, api.ErrRule}, {mixed(), []int{4}, api.ErrRule}, {mixed(), []int{0, 2}, api.ErrRule}, {mixed(), []int{4, 5}, api.ErrRule},
	} {
		for _, test := range []api.Test{passed, failed} {
			if values, some, e := blame.CanPass(x.p, test, x.lines); e != x.want || some || len(values) != 0 {
				t.Error("P3.4: CanPass:", x.lines, values, some, e)
			}
		}
		for _, l := range [][]api.Test{nil, {passed}, {failed}, {passed, failed}} {
			if is, e := blame.IsToBlame(x.p, l, x.lines); e != x.want || is {
				t.Error("P3.4: IsToBlame:", x.lines, is, e)
			}
		}
	}
	for _, size := range []int{math.MinInt, -1, 0, 3, 8, math.MaxInt} {
		for _, l := range [][]api.Test{nil, {passed}, {failed}} {
			if f, e := blame.Blamed(mixed(), l, size); e != api.ErrArg || len(f) != 0 {
				t.Error("P3.4: Blamed:", size, f, e)
			}
		}
	}
}

// TestCheckPass: more lines than MaxForced may be forced, and to numbers beyond MaxPick.
func TestCheckPass(t *testing.T) {
	for _, x := range []struct {
		t             api.Test
		lines, values []int
		want          api.Errno
	}{
		{wants(0, 8), []int{0}, []int{4}, api.OK}, {wants(0, 8), []int{1}, []int{8}, api.OK}, {wants(0, 8), []int{0, 1}, []int{-999, 8}, api.OK}, {wants(0, 6), nil, nil, api.OK},
		{wants(0, 26), []int{0}, []int{13}, api.OK}, {wants(0, 999), []int{1}, []int{999}, api.OK}, {wants(0, -999), []int{0}, []int{-999}, api.OK}, {wants(3, 7), []int{0, 1, 3, 5}, []int{0, 0, 0, 7}, api.OK}, {wants(3, 7), []int{0, 1, 3, 5}, []int{0, 0, 1, 7}, api.ErrProof},
		{wants(0, 7), []int{0, 1, 3, 5}, []int{0, 7, 0, 0}, api.OK}, {wants(3, 7), []int{3, 5}, []int{-1, 7}, api.OK},
		{wants(0, 8), nil, nil, api.ErrProof}, {wants(0, 8), []int{0}, []int{5}, api.ErrProof}, {wants(0, 8), []int{1}, []int{4}, api.ErrProof}, {wants(0, 6), []int{0}, []int{4}, api.ErrProof}, {wants(1, 8), []int{1}, []int{8}, api.ErrProof},
		{wants(0, 8), []int{1, 0}, []int{1000}, api.ErrArg}, {wants(0, 8), []int{9, 9}, nil, api.ErrArg}, {wants(0, 8), []int{6}, nil, api.ErrNone}, {wants(0, 8), []int{-1}, []int{1000}, api.ErrNone},
		{wants(0, 8), []int{0}, nil, api.ErrFit}, {wants(0, 6), nil, []int{0}, api.ErrFit}, {wants(0, 8), []int{2}, []int{1000, 0}, api.ErrFit},
		{wants(0, 8), []int{0}, []int{1000}, api.ErrArg}, {wants(0, 8), []int{2}, []int{-1000}, api.ErrArg}, {wants(0, 8), []int{2}, []int{0}, api.ErrRule}, {wants(0, 8), []int{1, 4}, []int{8, 0}, api.ErrRule},
	} {
		if e := blame.CheckPass(mixed(), x.t, x.lines, x.values); e != x.want {
			t.Error("P3.4:", x, e)
		}
	}
}

func TestCanPassExamples(t *testing.T) {
	for _, x := range []struct {
		t             api.Test
		lines, values []int
		some          bool
	}{
		{wants(0, 8), []int{0}, []int{4}, true}, {wants(0, 8), []int{1}, []int{8}, true}, {wants(0, 7), []int{0}, nil, false}, {wants(0, 7), []int{1}, []int{7}, true},
		{wants(0, 6), []int{0}, []int{3}, true}, {wants(0, 6), nil, nil, true}, {wants(0, 8), nil, nil, false},
		{wants(0, 12), []int{1}, []int{12}, true}, {wants(0, 13), []int{1}, nil, false}, {wants(0, -12), []int{1}, []int{-12}, true}, {wants(0, -13), []int{1}, nil, false},
		{wants(0, 24), []int{0}, []int{12}, true}, {wants(0, 26), []int{0}, nil, false}, {wants(0, -24), []int{0}, []int{-12}, true},
		{wants(0, 8), []int{0, 1}, []int{-12, 8}, true}, {wants(0, 8), []int{0, 3}, []int{4, -12}, true}, {wants(0, 8), []int{1, 3}, []int{8, -12}, true}, {wants(0, 8), []int{3, 5}, nil, false}, {wants(0, 6), []int{3, 5}, []int{-12, -12}, true},
		{wants(3, 0), []int{5}, []int{-12}, true}, {wants(3, 5), []int{5}, nil, false}, {wants(3, 5), []int{3, 5}, []int{-12, 5}, true}, {wants(3, 9), []int{3}, []int{-12}, true}, {wants(3, 0), []int{3}, []int{1}, true},
		{api.Test{In: []int{0, 0, 1, 0}, Out: 3, Want: 0}, []int{3}, []int{2}, true}, {api.Test{In: []int{0, 0, 500, 0}, Out: 3, Want: 0}, []int{3}, nil, false},
	} {
		values, some, e := blame.CanPass(mixed(), x.t, x.lines)
		if e != api.OK || some != x.some || !slices.Equal(values, x.values) {
			t.Error("P3.4:", x, values, some, e)
		}
	}
	if values, some, e := blame.CanPass(nil, wants(0, 0), nil); e != api.OK || !some || len(values) != 0 {
		t.Error("P3.4: no lines:", values, some, e)
	}
}

func TestBlamedExamples(t *testing.T) {
	for _, x := range []struct {
		p           []api.Line
		l           []api.Test
		one, two    [][]int
		nothing     bool // whether the empty set of lines is to blame
		cuts, finds [][]int
	}{
		{six(), []api.Test{wants(0, 8)}, [][]int{{0}, {1}}, [][]int{{0, 1}}, false, [][]int{{0, 1}}, [][]int{{0}, {1}}},
		{six(), []api.Test{wants(0, 7)}, [][]int{{1}}, [][]int{{0, 1}}, false, [][]int{{0, 1}}, [][]int{{0}, {1}}},
		{six(), []api.Test{wants(0, 100)}, nil, nil, false, [][]int{{0, 1}}, [][]int{{0}, {1}}},
		{six(), []api.Test{wants(1, 100)}, nil, nil, false, [][]int{nil}, nil},
		{six(), []api.Test{wants(0, 6)}, [][]int{{0}, {1}}, [][]int{{0, 1}}, true, nil, [][]int{nil}},
		{six(), nil, [][]int{{0}, {1}}, [][]int{{0, 1}}, true, nil, [][]int{nil}},
		{six(), []api.Test{wants(0, 8), wants(0, 6), wants(0, 4)}, [][]int{{0}, {1}}, [][]int{{0, 1}}, false, [][]int{{0, 1}, {0, 1}}, [][]int{{0}, {1}}},
		{six(), []api.Test{wants(0, 8), wants(0, 7)}, [][]int{{1}}, [][]int{{0, 1}}, false, [][]int{{0, 1}, {0, 1}}, [][]int{{0}, {1}}},
		{six(), []api.Test{wants(0, 7), wants(1, 7)}, nil, nil, false, [][]int{{0, 1}, nil}, nil},
		{mixed(), []api.Test{wants(0, 8)}, [][]int{{0}, {1}}, [][]int{{0, 1}, {0, 3}, {0, 5}, {1, 3}, {1, 5}}, false, [][]int{{0, 1, 3, 4}}, [][]int{{0}, {1}, {3}, {4}}},
		{mixed(), []api.Test{wants(1, 5), wants(0, 8)}, nil, [][]int{{0, 3}, {1, 3}}, false, [][]int{{3, 4}, {0, 1, 3, 4}}, [][]int{{3}, {4}}},
		{mixed(), []api.Test{wants(3, 5)}, nil, [][]int{{3, 5}}, false, [][]int{{3, 4}}, [][]int{{3}, {4}}},
		{mixed(), nil, [][]int{{0}, {1}, {3}, {5}}, [][]int{{0, 1}, {0, 3}, {0, 5}, {1, 3}, {1, 5}, {3, 5}}, true, nil, [][]int{nil}},
		{nil, nil, nil, nil, true, nil, [][]int{nil}},
		{nil, []api.Test{wants(0, 1)}, nil, nil, false, [][]int{nil}, nil},
	} {
		one, e1 := blame.Blamed(x.p, x.l, 1)
		two, e2 := blame.Blamed(x.p, x.l, 2)
		nothing, e3 := blame.IsToBlame(x.p, x.l, nil)
		if e1 != api.OK || e2 != api.OK || e3 != api.OK || !same(one, x.one) || !same(two, x.two) || nothing != x.nothing {
			t.Error("P3.4: Blamed:", x.p, x.l, one, two, nothing)
		}
		cuts, e1 := blame.Slices(x.p, x.l)
		finds, e2 := blame.Diagnoses(x.p, x.l)
		if e1 != api.OK || e2 != api.OK || !same(cuts, x.cuts) || !same(finds, x.finds) {
			t.Error("P3.4: Slices, Diagnoses:", x.p, x.l, cuts, finds)
		}
	}
}

// TestSlices holds Slices and Diagnoses against package code and Blocker.
func TestSlices(t *testing.T) {
	m := sample.New()
	for range 2000 {
		p := m.Program()
		l := m.Tests(p)
		var want [][]int
		for _, x := range l {
			end, _ := code.Run(p, x.In)
			slice, _ := code.Slice(p, x.In, x.Out)
			if end[x.Out] != x.Want {
				want = append(want, slice)
			}
		}
		cuts, e := blame.Slices(p, l)
		if e != api.OK || !same(cuts, want) {
			t.Fatal("P3.4: Slices:", p, l, cuts, e)
		}
		blocker, _ := blame.Blocker(want)
		if finds, e := blame.Diagnoses(p, l); e != api.OK || !same(finds, blocker) {
			t.Fatal("P3.4: Diagnoses:", p, l, finds, e)
		}
	}
}

// canPass tries all numbers for at most two lines, in ascending order.
func canPass(p []api.Line, t api.Test, lines []int) ([]int, bool) {
	all := [][]int{nil}
	for range lines {
		var longer [][]int
		for _, values := range all {
			for n := -12; n <= 12; n++ {
				longer = append(longer, append(slices.Clone(values), n))
			}
		}
		all = longer
	}
	for _, values := range all {
		if end, e := code.Force(p, t.In, lines, values); e == api.OK && end[t.Out] == t.Want {
			return values, true
		}
	}
	return nil, false
}

// writers returns the sets of so many lines that all write a register, in ascending order.
func writers(p []api.Line, size int) [][]int {
	return slices.DeleteFunc(ofSize(size), func(lines []int) bool {
		return slices.ContainsFunc(lines, func(line int) bool {
			return line >= len(p) || p[line].Op == api.None || p[line].Op == api.Skip
		})
	})
}

// TestBlamedOfRuns holds CanPass, IsToBlame, Blamed and the consequence of P3.4 against all numbers that may be forced.
func TestBlamedOfRuns(t *testing.T) {
	m := sample.New()
	passed, blamed := map[bool]int{}, map[bool]int{}
	for range 120 {
		p := m.Program()
		l := m.Tests(p)
		l = l[:min(len(l), 1+m.Below(3))]
		family, _ := blame.Slices(p, l)
		for size := range 3 {
			var want [][]int
			for _, lines := range writers(p, size) {
				is := true
				for _, x := range l {
					some := expectCanPass(t, p, x, lines)
					passed[some]++
					passes, _ := check.Passes(p, x)
					is = is && (passes || some)
				}
				blamed[is]++
				if got, e := blame.IsToBlame(p, l, lines); e != api.OK || got != is {
					t.Fatal("P3.4: IsToBlame:", p, l, lines, got, e)
				}
				if !is {
					continue
				}
				want = append(want, lines)
				if !hits(family, lines) {
					t.Fatal("S3: a set to blame does not hit the slices:", p, l, lines)
				}
			}
			if size == 0 {
				continue
			}
			if list, e := blame.Blamed(p, l, size); e != api.OK || !same(list, want) {
				t.Fatal("P3.4: Blamed:", p, l, size, list, e, want)
			}
		}
	}
	if passed[true] < 200 || passed[false] < 200 || blamed[true] < 100 || blamed[false] < 100 {
		t.Error("too few kinds:", passed, blamed)
	}
}

// expectCanPass holds CanPass against all numbers that may be forced, and its proof against CheckPass.
func expectCanPass(t *testing.T, p []api.Line, x api.Test, lines []int) bool {
	t.Helper()
	want, is := canPass(p, x, lines)
	values, some, e := blame.CanPass(p, x, lines)
	if e != api.OK || some != is || !slices.Equal(values, want) {
		t.Fatal("P3.4: CanPass:", p, x, lines, values, some, e)
	}
	if some && blame.CheckPass(p, x, lines, values) != api.OK {
		t.Fatal("P3.4: CheckPass:", p, x, lines, values)
	}
	return some
}
