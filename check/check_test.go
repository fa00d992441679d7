package check_test

import (
	"math"
	"slices"
	"testing"

	"tinker/api"
	"tinker/check"
	"tinker/code"
	"tinker/sample"
)

// wants is a test from the state of zeros.
func wants(out, want int) api.Test {
	return api.Test{In: sample.Zeros(), Out: out, Want: want}
}

// upTo is a contract from the state of zeros on.
func upTo(out, least, most int, high ...int) api.Contract {
	return api.Contract{Low: sample.Zeros(), High: high, Out: out, Min: least, Max: most}
}

// skips sets the register 2 to 9, if 0 is not below 1, and then 3 to 1.
func skips() []api.Line {
	return []api.Line{{Op: api.Skip, To: 1, A: 0, B: 1}, {Op: api.Set, To: 2, A: 9}, {Op: api.Set, To: 3, A: 1}}
}

// wrongNumbers are no registers; values says that they are no numbers of registers either.
func wrongNumbers(values bool) []int {
	list := []int{math.MinInt, math.MinInt + 1, -1000, 1000, math.MaxInt - 1, math.MaxInt}
	if !values {
		list = append(list, -1, 4)
	}
	return list
}

// wrongStates are no states.
func wrongStates() [][]int {
	list := [][]int{nil, {}, {0}, {0, 0, 0}, {0, 0, 0, 0, 0}, make([]int, 1000)}
	for _, n := range wrongNumbers(true) {
		for r := range 4 {
			in := sample.Zeros()
			in[r] = n
			list = append(list, in)
		}
	}
	return list
}

// wrongTests are no tests.
func wrongTests() []api.Test {
	list := []api.Test{{}}
	for _, in := range wrongStates() {
		list = append(list, api.Test{In: in})
	}
	for _, out := range wrongNumbers(false) {
		list = append(list, wants(out, 0))
	}
	for _, want := range wrongNumbers(true) {
		list = append(list, wants(0, want))
	}
	return list
}

// wrongContracts are no contracts.
func wrongContracts() []api.Contract {
	list := []api.Contract{{}, upTo(0, 1, 0, 0, 0, 0, 0), upTo(0, 999, -999, 0, 0, 0, 0)}
	for _, in := range wrongStates() {
		list = append(list, upTo(0, 0, 0, in...), api.Contract{Low: in, High: sample.Zeros()}, api.Contract{Low: in, High: in})
	}
	for r := range 4 {
		above := []int{5, 5, 5, 5}
		above[r] = -1
		list = append(list, upTo(0, 0, 0, above...))
	}
	for _, out := range wrongNumbers(false) {
		list = append(list, upTo(out, 0, 0, 0, 0, 0, 0))
	}
	for _, n := range wrongNumbers(true) {
		list = append(list, upTo(0, n, 0, 0, 0, 0, 0), upTo(0, 0, n, 0, 0, 0, 0), upTo(0, n, n, 0, 0, 0, 0))
	}
	return list
}

func TestValidateTests(t *testing.T) {
	many := make([]api.Test, 8)
	for i := range many {
		many[i] = wants(3, i)
	}
	good := [][]api.Test{nil, {}, many, {{In: []int{-999, 999, 999, -999}, Out: 3, Want: -999}}, {wants(0, 999)}}
	for _, l := range good {
		if e := check.ValidateTests(l); e != api.OK {
			t.Error("P2.1:", l, e)
		}
	}
	if e := check.ValidateTests(append(many, wants(0, 0))); e != api.ErrLarge {
		t.Error("P2.1: 9 tests:", e)
	}
	for _, wrong := range wrongTests() {
		for _, l := range [][]api.Test{{wrong}, {wants(0, 0), wrong}, {wrong, wants(0, 0)}, append(slices.Clone(many[:7]), wrong)} {
			if e := check.ValidateTests(l); e != api.ErrArg {
				t.Error("P2.1:", l, e)
			}
		}
		if e := check.ValidateTests(append(slices.Clone(many), wrong)); e != api.ErrLarge {
			t.Error("P2.1: 9 tests, a wrong one:", e)
		}
	}
}

func TestValidateContract(t *testing.T) {
	end := []int{999, 999, 999, 999}
	for _, x := range []struct {
		c    api.Contract
		size int
	}{
		{upTo(3, -999, 999, 0, 0, 0, 0), 1},
		{upTo(0, 5, 5, 399, 0, 0, 0), 400},
		{upTo(0, 5, 5, 0, 0, 0, 399), 400},
		{upTo(0, -999, -999, 19, 0, 19, 0), 400},
		{upTo(0, 999, 999, 3, 4, 3, 4), 400},
		{api.Contract{Low: end, High: end}, 1},
		{api.Contract{Low: []int{-999, -999, -999, -999}, High: []int{-999, -998, -850, -999}}, 300},
	} {
		size, e := check.Box(x.c)
		if f := check.ValidateContract(x.c); e != api.OK || f != api.OK || size != x.size {
			t.Error("P2.1, P2.4:", x.c, size, e, f)
		}
	}
	for _, c := range []api.Contract{
		upTo(0, 0, 0, 400, 0, 0, 0), upTo(0, 0, 0, 0, 0, 0, 400), upTo(0, 0, 0, 19, 0, 20, 0), upTo(0, 0, 0, 4, 4, 4, 4),
		{Low: []int{-999, -999, -999, -999}, High: end}, {Low: []int{-999, 0, 0, 0}, High: []int{999, 0, 0, 0}},
	} {
		if e := check.ValidateContract(c); e != api.ErrLarge {
			t.Error("P2.1:", c, e)
		}
		c.Min, c.Max = 1, 0
		if e := check.ValidateContract(c); e != api.ErrArg {
			t.Error("P2.1: too large, but no contract:", c, e)
		}
	}
	for _, c := range wrongContracts() {
		if e := check.ValidateContract(c); e != api.ErrArg {
			t.Error("P2.1:", c, e)
		}
		if size, e := check.Box(c); e != api.ErrArg || size != 0 {
			t.Error("P2.1:", c, size, e)
		}
	}
}

// refusals are programs with the errors that code.Validate has for them.
func refusals() []struct {
	p    []api.Line
	want api.Errno
} {
	long := sample.TooLong()
	long[0] = sample.BadLine()
	return []struct {
		p    []api.Line
		want api.Errno
	}{
		{sample.Six(), api.OK},
		{[]api.Line{sample.BadLine()}, api.ErrArg},
		{[]api.Line{{}, {Op: api.Set, A: 10}}, api.ErrArg},
		{sample.TooLong(), api.ErrLarge},
		{long, api.ErrLarge},
	}
}

// TestErrorsWithTests: errors of the program first, then those of the tests; with each all results are zero.
func TestErrorsWithTests(t *testing.T) {
	for _, x := range refusals() {
		lists := map[api.Errno][][]api.Test{api.ErrLarge: {make([]api.Test, 9), make([]api.Test, 5000)}}
		for _, wrong := range wrongTests() {
			lists[api.ErrArg] = append(lists[api.ErrArg], []api.Test{wrong})
		}
		if x.want != api.OK {
			lists[api.OK] = [][]api.Test{nil, {wants(0, 0)}}
		}
		for code, some := range lists {
			want := x.want
			if want == api.OK {
				want = code
			}
			for _, l := range some {
				refuseTests(t, x.p, l, want)
			}
		}
	}
}

// refuseTests calls all functions with a program and a list of tests.
func refuseTests(t *testing.T, p []api.Line, l []api.Test, want api.Errno) {
	t.Helper()
	for name, f := range map[string]func([]api.Line, []api.Test) ([]int, api.Errno){
		"Passing": check.Passing, "Failing": check.Failing, "Covered": check.Covered, "Suspects": check.Suspects, "Rank": check.Rank,
		"Tells": func(p []api.Line, l []api.Test) ([]int, api.Errno) { return check.Tells(p, nil, l) },
		"Tells, the second one": func(p []api.Line, l []api.Test) ([]int, api.Errno) {
			return check.Tells(sample.Six(), p, l)
		},
		"Scores": func(p []api.Line, l []api.Test) ([]int, api.Errno) {
			list, e := check.Scores(p, l)
			return make([]int, len(list)), e
		},
		"Table": func(p []api.Line, l []api.Test) ([]int, api.Errno) {
			list, e := check.Table(p, l)
			return make([]int, len(list)), e
		},
	} {
		if list, e := f(p, l); e != want || len(list) != 0 {
			t.Errorf("P2.1, R2, R3: %s: %v %d instead of %d", name, list, e, want)
		}
	}
	if len(l) == 1 {
		if is, e := check.Passes(p, l[0]); e != want || is {
			t.Errorf("P2.1, R2, R3: Passes: %v %d instead of %d", is, e, want)
		}
	}
}

// TestErrorsWithContracts: errors of the program first, then those of the contract; with each all results are zero.
func TestErrorsWithContracts(t *testing.T) {
	for _, x := range refusals() {
		for _, c := range append(wrongContracts(), upTo(0, 0, 0, 400, 0, 0, 0), upTo(0, 0, 0, 0, 0, 0, 0)) {
			want := x.want
			if want == api.OK {
				want = check.ValidateContract(c)
			}
			if want != api.OK {
				refuseContract(t, x.p, c, want)
			}
		}
	}
}

// refuseContract calls all functions with a program and a contract.
func refuseContract(t *testing.T, p []api.Line, c api.Contract, want api.Errno) {
	t.Helper()
	if is, e := check.Keeps(p, c); e != want || is {
		t.Errorf("P2.1, R2, R3: Keeps: %v %d instead of %d", is, e, want)
	}
	if n, e := check.Bad(p, c); e != want || n != 0 {
		t.Errorf("P2.1, R2, R3: Bad: %d %d instead of %d", n, e, want)
	}
	if in, some, e := check.First(p, c); e != want || some || len(in) != 0 {
		t.Errorf("P2.1, R2, R3: First: %v %v %d instead of %d", in, some, e, want)
	}
	if least, most, e := check.Extremes(p, c); e != want || least != 0 || most != 0 {
		t.Errorf("P2.1, R2, R3: Extremes: %d %d %d instead of %d", least, most, e, want)
	}
	for _, pair := range [][2][]api.Line{{p, nil}, {sample.Six(), p}} {
		if in, some, e := check.Differ(pair[0], pair[1], c); e != want || some || len(in) != 0 {
			t.Errorf("P2.1, R2, R3: Differ: %v %v %d instead of %d", in, some, e, want)
		}
	}
}

// TestErrorsOfTwoPrograms: all errors of the first one come before those of the second one.
func TestErrorsOfTwoPrograms(t *testing.T) {
	bad, long := []api.Line{sample.BadLine()}, sample.TooLong()
	for _, x := range []struct {
		p, q []api.Line
		want api.Errno
	}{{bad, long, api.ErrArg}, {long, bad, api.ErrLarge}, {nil, bad, api.ErrArg}, {nil, long, api.ErrLarge}} {
		if _, e := check.Tells(x.p, x.q, make([]api.Test, 9)); e != x.want {
			t.Error("R2: Tells:", e, x.want)
		}
		if _, _, e := check.Differ(x.p, x.q, api.Contract{}); e != x.want {
			t.Error("R2: Differ:", e, x.want)
		}
	}
}

func TestErrorsOfMake(t *testing.T) {
	zero := func(x api.Test) bool { return len(x.In) == 0 && x.Out == 0 && x.Want == 0 }
	for _, x := range refusals() {
		want := x.want
		if want == api.OK {
			want = api.ErrArg
		}
		for _, in := range wrongStates() {
			for _, out := range []int{0, 9} {
				if made, e := check.Make(x.p, in, out); e != want || !zero(made) {
					t.Error("P2.2:", in, out, made, e)
				}
			}
		}
		for _, out := range wrongNumbers(false) {
			if made, e := check.Make(x.p, sample.Zeros(), out); e != want || !zero(made) {
				t.Error("P2.2:", out, made, e)
			}
		}
		if made, e := check.Make(x.p, sample.Zeros(), 0); x.want != api.OK && (e != want || !zero(made)) {
			t.Error("R2:", made, e)
		}
	}
}

// TestMemory: a result shares no memory with an argument or with another result, and no argument is changed.
func TestMemory(t *testing.T) {
	p, in := skips(), []int{1, 0, 0, 0}
	l := []api.Test{{In: in, Out: 2, Want: 9}, {In: in, Out: 2, Want: 1}}
	c := api.Contract{Low: in, High: []int{1, 1, 1, 1}, Out: 2, Min: 1, Max: 1}
	for range 2 {
		made, _ := check.Make(p, in, 2)
		first, _, _ := check.First(p, c)
		differ, _, _ := check.Differ(p, nil, c)
		table, _ := check.Table(p, l)
		for _, list := range append(table, made.In, first, differ) {
			if !sample.Spoil(list) {
				t.Error("R5: a result is shared or empty:", list)
			}
		}
	}
	if !slices.Equal(p, skips()) || !slices.Equal(in, []int{1, 0, 0, 0}) || !slices.Equal(c.High, []int{1, 1, 1, 1}) {
		t.Error("R5: an argument is changed:", p, in, c)
	}
	if e := code.Validate(p); e != api.OK {
		t.Error(e)
	}
}
