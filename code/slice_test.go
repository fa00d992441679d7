package code_test

import (
	"math"
	"slices"
	"testing"

	"tinker/api"
	"tinker/code"
	"tinker/sample"
)

func TestSlice(t *testing.T) {
	long := []api.Line{
		{Op: api.Set, To: 0, A: 1},
		{Op: api.Set, To: 1, A: 2},
		{Op: api.Copy, To: 2, A: 0},
		{Op: api.Skip, To: 1, A: 0, B: 3},
		{Op: api.Add, To: 2, A: 2, B: 1},
		{Op: api.Set, To: 1, A: 5},
	}
	for _, x := range []struct {
		what     string
		p        []api.Line
		in       []int
		register int
		want     []int
	}{
		{"nothing", nil, sample.Zeros(), 0, nil},
		{"all that it reads", long, sample.Zeros(), 2, []int{0, 1, 2, 3, 4}},
		{"a line that is not done is not in it", long, []int{0, 0, 0, 9}, 2, []int{0, 2, 3}},
		{"what is written over is not in it", long, sample.Zeros(), 1, []int{0, 3, 5}},
		{"a Skip is in it for each register", long, sample.Zeros(), 3, []int{0, 3}},
		{"a Skip that leaves out nothing", []api.Line{{Op: api.Skip, To: 1, A: 1, B: 1}}, sample.Zeros(), 3, []int{0}},
		{"a Skip's registers matter before it alone", []api.Line{{Op: api.Set, To: 1}, {Op: api.Skip, To: 8, A: 1, B: 2}, {Op: api.Set, To: 1}, {Op: api.Set, To: 2}}, sample.Zeros(), 3, []int{0, 1}},
		{"a line that reads what it writes", []api.Line{{Op: api.Set, To: 0, A: 1}, {Op: api.Add, To: 0, A: 0, B: 1}}, sample.Zeros(), 0, []int{0, 1}},
		{"a copy to itself", []api.Line{{Op: api.Copy, To: 2, A: 2}}, sample.Zeros(), 2, []int{0}},
		{"None", []api.Line{{}, {}}, sample.Zeros(), 0, nil},
		{"a line that does not change the number", []api.Line{{Op: api.Set, To: 0}, {Op: api.Add, To: 0, A: 0, B: 1}}, sample.Zeros(), 0, []int{0, 1}},
		{"the constant of Set is no register", []api.Line{{Op: api.Set, To: 2}, {Op: api.Set, To: 1, A: 2}}, sample.Zeros(), 1, []int{1}},
	} {
		if l, e := code.Slice(x.p, x.in, x.register); e != api.OK || !slices.Equal(l, x.want) {
			t.Errorf("P1.3: %s: %v %d", x.what, l, e)
		}
	}
	for _, register := range []int{math.MinInt, -1, 4, math.MaxInt} {
		if l, e := code.Slice(sample.Six(), sample.Zeros(), register); e != api.ErrArg || len(l) != 0 {
			t.Error("P1.1:", register, l, e)
		}
	}
}

func TestSlicesOfModel(t *testing.T) {
	m := sample.New()
	for range 5000 {
		p, in := m.Program(), m.State()
		for register := range 4 {
			want := modelSlice(p, in, register)
			if l, e := code.Slice(p, in, register); e != api.OK || !slices.Equal(l, want) {
				t.Fatalf("P1.3: Slice of %v from %v, register %d: %v %d", p, in, register, l, e)
			}
		}
	}
}

func TestForce(t *testing.T) {
	skips := []api.Line{{Op: api.Skip, To: 1, A: 0, B: 1}, {Op: api.Set, To: 2, A: 9}, {Op: api.Copy, To: 3, A: 2}}
	leads := []api.Line{{Op: api.Set, To: 1, A: 0}, {Op: api.Skip, To: 1, A: 0, B: 1}, {Op: api.Set, To: 2, A: 9}}
	for _, x := range []struct {
		what          string
		p             []api.Line
		in            []int
		lines, values []int
		want          []int
	}{
		{"no line", sample.Six(), sample.Zeros(), nil, nil, []int{6, 0, 0, 0}},
		{"an empty list", sample.Six(), sample.Zeros(), []int{}, []int{}, []int{6, 0, 0, 0}},
		{"no line of the empty program", nil, []int{1, 2, 3, 4}, nil, nil, []int{1, 2, 3, 4}},
		{"a line", sample.Six(), sample.Zeros(), []int{0}, []int{5}, []int{10, 0, 0, 0}},
		{"two lines", sample.Six(), sample.Zeros(), []int{0, 1}, []int{5, -7}, []int{-7, 0, 0, 0}},
		{"the values in their order", []api.Line{{Op: api.Set, To: 0}, {Op: api.Set, To: 1}}, sample.Zeros(), []int{0, 1}, []int{8, -8}, []int{8, -8, 0, 0}},
		{"the greatest value", sample.Six(), sample.Zeros(), []int{0}, []int{999}, []int{999, 0, 0, 0}},
		{"the smallest value", sample.Six(), sample.Zeros(), []int{1}, []int{-999}, []int{-999, 0, 0, 0}},
		{"a line that is done", skips, sample.Zeros(), []int{1}, []int{4}, []int{0, 0, 4, 4}},
		{"a line that is not done", skips, []int{0, 1, 0, 0}, []int{1}, []int{4}, []int{0, 1, 0, 0}},
		{"a line that leads a Skip", leads, sample.Zeros(), []int{0}, []int{1}, []int{0, 1, 0, 0}},
	} {
		if end, e := code.Force(x.p, x.in, x.lines, x.values); e != api.OK || !slices.Equal(end, x.want) {
			t.Errorf("P1.3: %s: %v %d", x.what, end, e)
		}
	}
}

func TestErrorsOfForce(t *testing.T) {
	skips := []api.Line{{Op: api.Skip, To: 1, A: 0, B: 1}, {Op: api.Set, To: 2, A: 9}, {}}
	for _, x := range []struct {
		what          string
		p             []api.Line
		lines, values []int
		want          api.Errno
	}{
		{"a list that descends", sample.Six(), []int{1, 0}, []int{1, 1}, api.ErrArg},
		{"a line twice", sample.Six(), []int{1, 1}, []int{1, 1}, api.ErrArg},
		{"no set before no line", sample.Six(), []int{9, -1}, []int{1, 1}, api.ErrArg},
		{"no set, at its end, before no line", sample.Six(), []int{-1, 0, 0}, []int{1, 1, 1}, api.ErrArg},
		{"no line below", sample.Six(), []int{-1, 0}, []int{1, 1}, api.ErrNone},
		{"no line above", sample.Six(), []int{0, 2}, []int{1, 1}, api.ErrNone},
		{"far numbers", sample.Six(), []int{math.MinInt, math.MaxInt}, []int{1, 1}, api.ErrNone},
		{"no line of the empty program", nil, []int{0}, []int{1}, api.ErrNone},
		{"no line before too few values", sample.Six(), []int{2}, nil, api.ErrNone},
		{"no line before a Skip", skips, []int{0, 3}, []int{1, 1}, api.ErrNone},
		{"too few values", sample.Six(), []int{0, 1}, []int{1}, api.ErrFit},
		{"too many values", sample.Six(), []int{0}, []int{1, 1}, api.ErrFit},
		{"a value for no line", sample.Six(), nil, []int{1}, api.ErrFit},
		{"no values", sample.Six(), []int{0}, nil, api.ErrFit},
		{"too few values before a bad one", sample.Six(), []int{0, 1}, []int{1000}, api.ErrFit},
		{"too few values before a Skip", skips, []int{0}, nil, api.ErrFit},
		{"a value that is too great", sample.Six(), []int{0, 1}, []int{1, 1000}, api.ErrArg},
		{"a value that is too small", sample.Six(), []int{0}, []int{-1000}, api.ErrArg},
		{"any value", sample.Six(), []int{0}, []int{math.MinInt}, api.ErrArg},
		{"a bad value before a Skip", skips, []int{0, 1}, []int{1, 1000}, api.ErrArg},
		{"a Skip", skips, []int{0}, []int{1}, api.ErrRule},
		{"a None behind a line that writes", skips, []int{1, 2}, []int{1, 0}, api.ErrRule},
	} {
		if end, e := code.Force(x.p, sample.Zeros(), x.lines, x.values); e != x.want || len(end) != 0 {
			t.Errorf("P1.3: %s: %v %d", x.what, end, e)
		}
	}
	// A line that writes no register is refused, also if it is not done.
	p := []api.Line{{Op: api.Skip, To: 1, A: 0, B: 1}, {}}
	if end, e := code.Force(p, []int{0, 1, 0, 0}, []int{1}, []int{1}); e != api.ErrRule || len(end) != 0 {
		t.Error("P1.3:", end, e)
	}
}

func TestForceOfModel(t *testing.T) {
	m := sample.New()
	for range 5000 {
		p, in := m.Program(), m.State()
		forced := map[int]int{}
		var lines, values []int
		for line, l := range p {
			if modelWrites(l) >= 0 && m.Below(2) == 0 {
				lines, values = append(lines, line), append(values, m.Number())
				forced[line] = values[len(values)-1]
			}
		}
		want := model(p, in, forced).end
		if end, e := code.Force(p, in, lines, values); e != api.OK || !slices.Equal(end, want) {
			t.Fatalf("P1.3: Force of %v from %v, %v to %v: %v %d", p, in, lines, values, end, e)
		}
	}
}

// TestOutsideSlice is S1: what is outside a slice does not matter for its register.
func TestOutsideSlice(t *testing.T) {
	m := sample.New()
	for range 5000 {
		p, in := m.Program(), m.State()
		end, _ := code.Run(p, in)
		for register := range 4 {
			slice, _ := code.Slice(p, in, register)
			var lines, values []int
			for line, l := range p {
				if _, is, _ := code.Writes(l); is && !slices.Contains(slice, line) {
					lines, values = append(lines, line), append(values, m.Number())
				}
			}
			other, e := code.Force(p, in, lines, values)
			if e != api.OK || other[register] != end[register] {
				t.Fatalf("S1: %v from %v, register %d: forced %v to %v: %v %d", p, in, register, lines, values, other, e)
			}
		}
	}
}
