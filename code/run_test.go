package code_test

import (
	"math"
	"slices"
	"testing"

	"tinker/api"
	"tinker/code"
	"tinker/sample"
)

// TestExamples: the examples of the chapter.
func TestExamples(t *testing.T) {
	skips := []api.Line{{Op: api.Skip, To: 1, A: 0, B: 1}, {Op: api.Set, To: 2, A: 9}}
	for _, in := range [][]int{sample.Zeros(), {5, 6, 7, 8}, {-999, 999, 0, 1}} {
		if end, e := code.Run(sample.Six(), in); e != api.OK || !slices.Equal(end, []int{6, in[1], in[2], in[3]}) {
			t.Error("P1.2:", end, e)
		}
		if l, e := code.Slice(sample.Six(), in, 0); e != api.OK || !slices.Equal(l, []int{0, 1}) {
			t.Error("P1.3:", l, e)
		}
		if l, e := code.Slice(sample.Six(), in, 1); e != api.OK || len(l) != 0 {
			t.Error("P1.3:", l, e)
		}
		if end, e := code.Force(sample.Six(), in, []int{0}, []int{5}); e != api.OK || end[0] != 10 {
			t.Error("P1.3:", end, e)
		}
	}
	if l, e := code.Done(skips, []int{1, 0, 0, 0}); e != api.OK || !slices.Equal(l, []int{0, 1}) {
		t.Error("P1.2:", l, e)
	}
	if l, e := code.Done(skips, []int{0, 1, 0, 0}); e != api.OK || !slices.Equal(l, []int{0}) {
		t.Error("P1.2:", l, e)
	}
}

// TestOperations: what each operation writes, with its bounds.
func TestOperations(t *testing.T) {
	for _, x := range []struct {
		what string
		l    api.Line
		in   []int
		want []int
	}{
		{"None", api.Line{}, []int{1, 2, 3, 4}, []int{1, 2, 3, 4}},
		{"Set", api.Line{Op: api.Set, To: 3, A: -9}, []int{1, 2, 3, 4}, []int{1, 2, 3, -9}},
		{"Copy", api.Line{Op: api.Copy, To: 3, A: 1}, []int{1, 2, 3, 4}, []int{1, 2, 3, 2}},
		{"Copy to itself", api.Line{Op: api.Copy, To: 3, A: 3}, []int{1, 2, 3, 4}, []int{1, 2, 3, 4}},
		{"Add", api.Line{Op: api.Add, To: 0, A: 1, B: 3}, []int{1, 2, 3, 4}, []int{6, 2, 3, 4}},
		{"Subtract", api.Line{Op: api.Subtract, To: 0, A: 1, B: 3}, []int{1, 2, 3, 4}, []int{-2, 2, 3, 4}},
		{"Least", api.Line{Op: api.Least, To: 0, A: 1, B: 3}, []int{1, 2, 3, -4}, []int{-4, 2, 3, -4}},
		{"Least, exchanged", api.Line{Op: api.Least, To: 0, A: 3, B: 1}, []int{1, 2, 3, -4}, []int{-4, 2, 3, -4}},
		{"Greatest", api.Line{Op: api.Greatest, To: 0, A: 1, B: 3}, []int{1, 2, 3, -4}, []int{2, 2, 3, -4}},
		{"Greatest, exchanged", api.Line{Op: api.Greatest, To: 0, A: 3, B: 1}, []int{1, 2, 3, -4}, []int{2, 2, 3, -4}},
		{"a sum at the bound", api.Line{Op: api.Add, To: 2, A: 0, B: 1}, []int{998, 1, 0, 0}, []int{998, 1, 999, 0}},
		{"a sum above the bound", api.Line{Op: api.Add, To: 2, A: 0, B: 1}, []int{999, 1, 0, 0}, []int{999, 1, 999, 0}},
		{"a sum far above the bound", api.Line{Op: api.Add, To: 2, A: 0, B: 1}, []int{999, 999, 0, 0}, []int{999, 999, 999, 0}},
		{"a sum below the bound", api.Line{Op: api.Add, To: 2, A: 0, B: 1}, []int{-999, -1, 0, 0}, []int{-999, -1, -999, 0}},
		{"a difference below the bound", api.Line{Op: api.Subtract, To: 2, A: 0, B: 1}, []int{-999, 999, 0, 0}, []int{-999, 999, -999, 0}},
		{"a difference above the bound", api.Line{Op: api.Subtract, To: 2, A: 0, B: 1}, []int{1, -999, 0, 0}, []int{1, -999, 999, 0}},
		{"Skip", api.Line{Op: api.Skip, To: 1, A: 0, B: 1}, []int{1, 2, 3, 4}, []int{1, 2, 3, 4}},
	} {
		if end, e := code.Run([]api.Line{x.l}, x.in); e != api.OK || !slices.Equal(end, x.want) {
			t.Errorf("P1.2: %s: %v %d", x.what, end, e)
		}
	}
}

// TestSkips: which lines a Skip leaves out.
func TestSkips(t *testing.T) {
	for _, x := range []struct {
		what string
		skip api.Line
		in   []int
		done []int
	}{
		{"below", api.Line{Op: api.Skip, To: 2, A: 0, B: 1}, []int{1, 2, 0, 0}, []int{0, 3}},
		{"equal", api.Line{Op: api.Skip, To: 2, A: 0, B: 1}, []int{2, 2, 0, 0}, []int{0, 1, 2, 3}},
		{"above", api.Line{Op: api.Skip, To: 2, A: 0, B: 1}, []int{3, 2, 0, 0}, []int{0, 1, 2, 3}},
		{"a register and itself", api.Line{Op: api.Skip, To: 2, A: 1, B: 1}, sample.Zeros(), []int{0, 1, 2, 3}},
		{"to the last line", api.Line{Op: api.Skip, To: 2, A: 0, B: 1}, []int{-1, 0, 0, 0}, []int{0, 3}},
		{"just to the end", api.Line{Op: api.Skip, To: 3, A: 0, B: 1}, []int{-1, 0, 0, 0}, []int{0}},
		{"beyond the end", api.Line{Op: api.Skip, To: 4, A: 0, B: 1}, []int{-1, 0, 0, 0}, []int{0}},
		{"far beyond the end", api.Line{Op: api.Skip, To: 8, A: 0, B: 1}, []int{-1, 0, 0, 0}, []int{0}},
	} {
		p := []api.Line{x.skip, {}, {Op: api.Set, To: 2, A: 1}, {Op: api.Set, To: 3, A: 1}}
		if l, e := code.Done(p, x.in); e != api.OK || !slices.Equal(l, x.done) {
			t.Errorf("P1.2: %s: %v %d", x.what, l, e)
		}
	}
	// A Skip that is left out leaves out nothing.
	p := []api.Line{{Op: api.Skip, To: 1, A: 0, B: 1}, {Op: api.Skip, To: 1, A: 0, B: 1}, {Op: api.Set, To: 2, A: 7}}
	if l, e := code.Done(p, []int{0, 1, 0, 0}); e != api.OK || !slices.Equal(l, []int{0, 2}) {
		t.Error("P1.2:", l, e)
	}
}

// TestRunsOfModel holds Run, Done and Before against the model.
func TestRunsOfModel(t *testing.T) {
	m := sample.New()
	for range 5000 {
		p, in := m.Program(), m.State()
		want := model(p, in, nil)
		if end, e := code.Run(p, in); e != api.OK || !slices.Equal(end, want.end) {
			t.Fatalf("P1.2: Run of %v from %v: %v %d", p, in, end, e)
		}
		if done, e := code.Done(p, in); e != api.OK || !slices.Equal(done, want.done) {
			t.Fatalf("P1.2: Done of %v from %v: %v %d", p, in, done, e)
		}
		for line := range p {
			state, is, e := code.Before(p, in, line)
			if e != api.OK || is != slices.Contains(want.done, line) || !slices.Equal(state, want.before[line]) {
				t.Fatalf("P1.2: Before of %v from %v, line %d: %v %v %d", p, in, line, state, is, e)
			}
		}
	}
}

func TestBefore(t *testing.T) {
	in := []int{7, 1, 2, 3}
	if state, is, e := code.Before(sample.Six(), in, 0); e != api.OK || !is || !slices.Equal(state, in) {
		t.Error("P1.2:", state, is, e)
	}
	if state, is, e := code.Before(sample.Six(), in, 1); e != api.OK || !is || !slices.Equal(state, []int{3, 1, 2, 3}) {
		t.Error("P1.2:", state, is, e)
	}
	skips := []api.Line{{Op: api.Skip, To: 1, A: 0, B: 1}, {Op: api.Set, To: 2, A: 9}}
	if state, is, e := code.Before(skips, []int{0, 1, 0, 0}, 1); e != api.OK || is || len(state) != 0 {
		t.Error("R3:", state, is, e)
	}
	for _, line := range []int{math.MinInt, -1, 2, 8, math.MaxInt} {
		if state, is, e := code.Before(sample.Six(), in, line); e != api.ErrNone || is || len(state) != 0 {
			t.Error("P1.1:", line, state, is, e)
		}
	}
	if _, _, e := code.Before(nil, in, 0); e != api.ErrNone {
		t.Error("P1.1: a line of the empty program:", e)
	}
}

// TestReadsAndWrites goes through all lines.
func TestReadsAndWrites(t *testing.T) {
	for _, l := range sample.Lines() {
		read, e := code.Reads(l)
		if e != api.OK || !slices.Equal(read, modelReads(l)) {
			t.Errorf("P1.2: Reads of %v: %v %d", l, read, e)
		}
		to, is, e := code.Writes(l)
		if want := modelWrites(l); e != api.OK || is != (want >= 0) || to != max(want, 0) {
			t.Errorf("P1.2: Writes of %v: %d %v %d", l, to, is, e)
		}
	}
}

// TestReadsIsEnough: the registers that a line does not read do not matter for it.
func TestReadsIsEnough(t *testing.T) {
	m := sample.New()
	for range 20000 {
		l, in, other := m.Line(), m.State(), m.State()
		read, _ := code.Reads(l)
		to, is, _ := code.Writes(l)
		for _, r := range read {
			other[r] = in[r]
		}
		end, _ := code.Run([]api.Line{l}, in)
		otherEnd, _ := code.Run([]api.Line{l}, other)
		if is && end[to] != otherEnd[to] {
			t.Fatalf("P1.2: %v reads more than %v", l, read)
		}
		for r := range 4 {
			if (!is || r != to) && end[r] != in[r] {
				t.Fatalf("P1.2: %v writes %d", l, r)
			}
		}
	}
}
