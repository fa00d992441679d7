package code_test

import (
	"math"
	"slices"
	"testing"

	"tinker/api"
	"tinker/code"
	"tinker/sample"
)

// TestValidateLine holds all lines near the bounds against the list of the valid ones.
func TestValidateLine(t *testing.T) {
	valid := map[api.Line]bool{}
	for _, l := range sample.Lines() {
		valid[l] = true
	}
	if len(valid) != 477 {
		t.Fatal("the test knows", len(valid), "lines")
	}
	for op := -2; op <= 10; op++ {
		for to := -2; to <= 10; to++ {
			for a := -11; a <= 11; a++ {
				for b := -11; b <= 11; b++ {
					l := api.Line{Op: op, To: to, A: a, B: b}
					want := api.ErrArg
					if valid[l] {
						want = api.OK
					}
					if e := code.ValidateLine(l); e != want {
						t.Fatalf("P1.1: %v: %d", l, e)
					}
				}
			}
		}
	}
}

func TestValidateLineAnyValue(t *testing.T) {
	for _, l := range sample.Lines() {
		for _, n := range extremes() {
			for field := range 4 {
				bad := l
				*[]*int{&bad.Op, &bad.To, &bad.A, &bad.B}[field] = n
				expect(t, "P1.1", "a line with a field of any value", code.ValidateLine(bad), api.ErrArg)
				expect(t, "P1.1", "a program of it", code.Validate([]api.Line{l, bad}), api.ErrArg)
			}
		}
	}
}

func TestValidate(t *testing.T) {
	long := sample.TooLong()
	long[0] = sample.BadLine()
	huge := make([]api.Line, 100000)
	for _, x := range []struct {
		what string
		p    []api.Line
		want api.Errno
	}{
		{"nil", nil, api.OK},
		{"empty", []api.Line{}, api.OK},
		{"8 lines", make([]api.Line, 8), api.OK},
		{"9 lines", sample.TooLong(), api.ErrLarge},
		{"9 lines with a bad one", long, api.ErrLarge},
		{"many lines", huge, api.ErrLarge},
		{"a bad line first", []api.Line{sample.BadLine(), {}}, api.ErrArg},
		{"a bad line last", append(make([]api.Line, 7), sample.BadLine()), api.ErrArg},
	} {
		expect(t, "P1.1", x.what, code.Validate(x.p), x.want)
	}
	expect(t, "P1.1", "a skip beyond the end", code.Validate([]api.Line{{Op: api.Skip, To: 8}}), api.OK)
}

func TestValidateState(t *testing.T) {
	for _, x := range []struct {
		in   []int
		want api.Errno
	}{
		{sample.Zeros(), api.OK},
		{[]int{999, -999, 999, -999}, api.OK},
		{nil, api.ErrArg},
		{[]int{}, api.ErrArg},
		{[]int{0, 0, 0}, api.ErrArg},
		{[]int{0, 0, 0, 0, 0}, api.ErrArg},
	} {
		expect(t, "P1.1", "a state", code.ValidateState(x.in), x.want)
	}
	for register := range 4 {
		for _, n := range []int{math.MinInt, -1000, 1000, math.MaxInt} {
			in := sample.Zeros()
			in[register] = n
			expect(t, "P1.1", "a state with a number beyond the bounds", code.ValidateState(in), api.ErrArg)
		}
	}
}

// call is a function with all its arguments good, but for those that a test gives.
type call struct {
	name string
	do   func(p []api.Line, in []int) (zero bool, e api.Errno)
}

// runs are the functions that take a program and a state.
func runs() []call {
	return []call{
		{"Run", func(p []api.Line, in []int) (bool, api.Errno) {
			l, e := code.Run(p, in)
			return len(l) == 0, e
		}},
		{"Done", func(p []api.Line, in []int) (bool, api.Errno) {
			l, e := code.Done(p, in)
			return len(l) == 0, e
		}},
		{"Before", func(p []api.Line, in []int) (bool, api.Errno) {
			l, is, e := code.Before(p, in, 0)
			return len(l) == 0 && !is, e
		}},
		{"Before of no line", func(p []api.Line, in []int) (bool, api.Errno) {
			l, is, e := code.Before(p, in, -1)
			return len(l) == 0 && !is, e
		}},
		{"Slice", func(p []api.Line, in []int) (bool, api.Errno) {
			l, e := code.Slice(p, in, 0)
			return len(l) == 0, e
		}},
		{"Slice of no register", func(p []api.Line, in []int) (bool, api.Errno) {
			l, e := code.Slice(p, in, 4)
			return len(l) == 0, e
		}},
		{"Force", func(p []api.Line, in []int) (bool, api.Errno) {
			l, e := code.Force(p, in, []int{0}, []int{1})
			return len(l) == 0, e
		}},
		{"Force of no line", func(p []api.Line, in []int) (bool, api.Errno) {
			l, e := code.Force(p, in, []int{-1}, []int{1})
			return len(l) == 0, e
		}},
	}
}

// TestErrorsOfRuns: the errors for the program come first, then those for the state, then the others.
func TestErrorsOfRuns(t *testing.T) {
	good := []api.Line{{Op: api.Set, A: 1}}
	for _, c := range runs() {
		for _, x := range []struct {
			what string
			p    []api.Line
			in   []int
			want api.Errno
		}{
			{"a long program", sample.TooLong(), sample.Zeros(), api.ErrLarge},
			{"a long program and a bad state", sample.TooLong(), nil, api.ErrLarge},
			{"a bad line", []api.Line{sample.BadLine()}, sample.Zeros(), api.ErrArg},
			{"a line with a low Op", []api.Line{{Op: math.MinInt}}, sample.Zeros(), api.ErrArg},
			{"a register that is none", []api.Line{{Op: api.Set, To: 4}}, sample.Zeros(), api.ErrArg},
			{"a short state", good, []int{0, 0, 0}, api.ErrArg},
			{"a long state", good, []int{0, 0, 0, 0, 0}, api.ErrArg},
			{"no state", good, nil, api.ErrArg},
			{"a number that is too great", good, []int{0, 0, 0, 1000}, api.ErrArg},
		} {
			zero, e := c.do(x.p, x.in)
			expect(t, "P1.1", c.name+": "+x.what, e, x.want)
			if !zero {
				t.Errorf("R3: %s: %s: there is a result with the error", c.name, x.what)
			}
		}
	}
}

// changes are the functions that take a program, but no state.
func changes() []call {
	return []call{
		{"Put", func(p []api.Line, _ []int) (bool, api.Errno) {
			q, e := code.Put(p, -1, api.Line{})
			return len(q) == 0, e
		}},
		{"CanExchange", func(p []api.Line, _ []int) (bool, api.Errno) {
			is, e := code.CanExchange(p, -1)
			return !is, e
		}},
		{"Exchange", func(p []api.Line, _ []int) (bool, api.Errno) {
			q, e := code.Exchange(p, -1)
			return len(q) == 0, e
		}},
		{"Rename", func(p []api.Line, _ []int) (bool, api.Errno) {
			q, e := code.Rename(p, nil)
			return len(q) == 0, e
		}},
		{"Join, first", func(p []api.Line, _ []int) (bool, api.Errno) {
			q, e := code.Join(p, make([]api.Line, 8))
			return len(q) == 0, e
		}},
		{"Join, second", func(p []api.Line, _ []int) (bool, api.Errno) {
			q, e := code.Join(make([]api.Line, 8), p)
			return len(q) == 0, e
		}},
	}
}

func TestErrorsOfChanges(t *testing.T) {
	long := sample.TooLong()
	long[3] = sample.BadLine()
	for _, c := range changes() {
		for _, x := range []struct {
			what string
			p    []api.Line
			want api.Errno
		}{
			{"a long program", sample.TooLong(), api.ErrLarge},
			{"a long program with a bad line", long, api.ErrLarge},
			{"a bad line", []api.Line{{}, sample.BadLine()}, api.ErrArg},
		} {
			zero, e := c.do(x.p, nil)
			expect(t, "P1.1", c.name+": "+x.what, e, x.want)
			if !zero {
				t.Errorf("R3: %s: %s: there is a result with the error", c.name, x.what)
			}
		}
	}
}

// TestErrorsOfTwoPrograms: all errors of the first program come before those of the second one.
func TestErrorsOfTwoPrograms(t *testing.T) {
	_, e := code.Join([]api.Line{sample.BadLine()}, sample.TooLong())
	expect(t, "R2", "Join of a bad program and a long one", e, api.ErrArg)
	_, e = code.Join(sample.TooLong(), []api.Line{sample.BadLine()})
	expect(t, "R2", "Join of a long program and a bad one", e, api.ErrLarge)
}

func TestErrorsOfLines(t *testing.T) {
	for _, n := range extremes() {
		for _, bad := range []api.Line{{Op: n}, {To: n}, {A: n}, {B: n}} {
			l, e := code.Reads(bad)
			if len(l) != 0 || e != api.ErrArg {
				t.Errorf("P1.1: Reads of %v: %v %d", bad, l, e)
			}
			to, is, e := code.Writes(bad)
			if to != 0 || is || e != api.ErrArg {
				t.Errorf("P1.1: Writes of %v: %d %v %d", bad, to, is, e)
			}
			for _, pair := range [][2]api.Line{{bad, {}}, {{}, bad}, {bad, bad}} {
				if is, e := code.Independent(pair[0], pair[1]); is || e != api.ErrArg {
					t.Errorf("P1.1: Independent of %v: %v %d", pair, is, e)
				}
			}
			q, e := code.Put([]api.Line{{}}, 0, bad)
			if len(q) != 0 || e != api.ErrArg {
				t.Errorf("P1.1: Put of %v: %v %d", bad, q, e)
			}
		}
	}
}

// TestMemory: a result shares no memory with an argument, and no argument is changed.
func TestMemory(t *testing.T) {
	p := []api.Line{{Op: api.Set, To: 0, A: 3}, {Op: api.Set, To: 1, A: 4}, {Op: api.Add, To: 2}}
	p = append(make([]api.Line, 0, 8), p...) // room behind the lines must not be used
	in, to, lines, values := []int{5, 6, 7, 8}, []int{0, 1, 2, 3}, []int{0}, []int{9}
	spoil := func() {
		var programs [5][]api.Line
		programs[0], _ = code.Put(p, 0, api.Line{Op: api.Set, A: 1})
		programs[1], _ = code.Exchange(p, 0)
		programs[2], _ = code.Rename(p, to)
		programs[3], _ = code.Join(p, p)
		programs[4], _ = code.Join(p, nil)
		for _, q := range programs {
			for i := range q {
				q[i] = sample.BadLine()
			}
		}
		var states [4][]int
		states[0], _ = code.Run(nil, in)
		states[1], _ = code.Force(p, in, lines, values)
		states[2], _ = code.Move(in, to)
		states[3], _, _ = code.Before(p, in, 0)
		for _, s := range states {
			for i := range s {
				s[i] = 77
			}
		}
	}
	wantP, wantBehind := slices.Clone(p), slices.Clone(p[:8])
	for range 2 {
		spoil()
		if !slices.Equal(p, wantP) || !slices.Equal(p[:8], wantBehind) {
			t.Fatal("R5: the program is changed:", p[:8])
		}
		if !slices.Equal(in, []int{5, 6, 7, 8}) || !slices.Equal(to, []int{0, 1, 2, 3}) || !slices.Equal(lines, []int{0}) || !slices.Equal(values, []int{9}) {
			t.Fatal("R5: an argument is changed:", in, to, lines, values)
		}
	}
}

func TestJoinOfNothing(t *testing.T) {
	for _, x := range [][2][]api.Line{{nil, nil}, {{}, nil}, {nil, {}}, {{}, {}}} {
		if q, e := code.Join(x[0], x[1]); len(q) != 0 || e != api.OK {
			t.Error("R4:", q, e)
		}
	}
	if l, e := code.Done([]api.Line{}, sample.Zeros()); len(l) != 0 || e != api.OK {
		t.Error("R4:", l, e)
	}
}
