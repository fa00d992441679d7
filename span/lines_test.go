package span_test

import (
	"slices"
	"testing"

	"tinker/api"
	"tinker/code"
	"tinker/sample"
	"tinker/span"
)

// spans are what the functions of P6.3 say of a program and a box; a line without a box is not reached.
type spans struct {
	after         []api.Range
	before        [][]api.Range
	reached, dead []int
}

// spansOf calls the functions of P6.3.
func spansOf(t *testing.T, p []api.Line, b []api.Range) spans {
	t.Helper()
	var s spans
	var codes [3]api.Errno
	s.after, codes[0] = span.After(p, b)
	s.reached, codes[1] = span.Reached(p, b)
	s.dead, codes[2] = span.Dead(p, b)
	for line := range p {
		before, is, e := span.Before(p, b, line)
		if e != api.OK || is != (len(before) > 0) {
			t.Fatal("P6.3: Before:", p, b, line, before, is, e)
		}
		s.before = append(s.before, before)
	}
	if codes != [3]api.Errno{} {
		t.Fatal("P6.3:", p, b, codes)
	}
	return s
}

// expectSpans reports what is not as in the boxes of the lines and that of the end.
func expectSpans(t *testing.T, what string, s spans, boxes [][]api.Range) {
	t.Helper()
	last := len(boxes) - 1
	sameBox(t, "P6.3: After: "+what, s.after, boxes[last])
	var reached, dead []int
	for line, b := range boxes[:last] {
		sameBox(t, "P6.3: Before: "+what, s.before[line], b)
		if b != nil {
			reached = append(reached, line)
		} else {
			dead = append(dead, line)
		}
	}
	if !slices.Equal(s.reached, reached) || !slices.Equal(s.dead, dead) {
		t.Errorf("P6.3: %s: reached are %v instead of %v, dead %v instead of %v", what, s.reached, reached, s.dead, dead)
	}
}

// TestOperations: the box after a line of each Op.
func TestOperations(t *testing.T) {
	b := box(-2, 1, 0, 5, 3, 4, 990, 999)
	for _, x := range []struct {
		what string
		l    api.Line
		to   int
		want api.Range
	}{
		{"None", api.Line{}, 0, api.Range{Low: -2, High: 1}},
		{"Set", set(0, -9), 0, api.Range{Low: -9, High: -9}},
		{"Copy", api.Line{Op: api.Copy, To: 3, A: 1}, 3, api.Range{Low: 0, High: 5}},
		{"Copy of itself", api.Line{Op: api.Copy, To: 1, A: 1}, 1, api.Range{Low: 0, High: 5}},
		{"Add", api.Line{Op: api.Add, To: 3, A: 0, B: 1}, 3, api.Range{Low: -2, High: 6}},
		{"Add of the same", api.Line{Op: api.Add, To: 0, A: 0, B: 0}, 0, api.Range{Low: -4, High: 2}},
		{"Add, High cut", api.Line{Op: api.Add, To: 0, A: 0, B: 3}, 0, api.Range{Low: 988, High: 999}},
		{"Add, both cut", api.Line{Op: api.Add, To: 0, A: 3, B: 3}, 0, api.Range{Low: 999, High: 999}},
		{"Subtract", api.Line{Op: api.Subtract, To: 3, A: 0, B: 1}, 3, api.Range{Low: -7, High: 1}},
		{"Subtract, exchanged", api.Line{Op: api.Subtract, To: 3, A: 1, B: 0}, 3, api.Range{Low: -1, High: 7}},
		{"Subtract of the same", api.Line{Op: api.Subtract, To: 0, A: 1, B: 1}, 0, api.Range{Low: -5, High: 5}},
		{"Subtract, Low cut", api.Line{Op: api.Subtract, To: 1, A: 0, B: 3}, 1, api.Range{Low: -999, High: -989}},
		{"Subtract, High cut", api.Line{Op: api.Subtract, To: 1, A: 3, B: 0}, 1, api.Range{Low: 989, High: 999}},
		{"Least", api.Line{Op: api.Least, To: 0, A: 1, B: 2}, 0, api.Range{Low: 0, High: 4}},
		{"Least of one inside", api.Line{Op: api.Least, To: 3, A: 2, B: 1}, 3, api.Range{Low: 0, High: 4}},
		{"Least of two apart", api.Line{Op: api.Least, To: 0, A: 2, B: 0}, 0, api.Range{Low: -2, High: 1}},
		{"Greatest", api.Line{Op: api.Greatest, To: 0, A: 1, B: 2}, 0, api.Range{Low: 3, High: 5}},
		{"Greatest of two apart", api.Line{Op: api.Greatest, To: 0, A: 0, B: 2}, 0, api.Range{Low: 3, High: 4}},
		{"Greatest of two that overlap", api.Line{Op: api.Greatest, To: 2, A: 0, B: 1}, 2, api.Range{Low: 0, High: 5}},
	} {
		want := slices.Clone(b)
		want[x.to] = x.want
		expectSpans(t, x.what, spansOf(t, []api.Line{x.l}, b), [][]api.Range{b, want})
	}
	low := box(-999, -998, -2, 1, 0, 0, 0, 0)
	want := box(-999, -997, -2, 1, 0, 0, 0, 0)
	sum := []api.Line{{Op: api.Add, To: 0, A: 0, B: 1}}
	expectSpans(t, "Add, Low cut", spansOf(t, sum, low), [][]api.Range{low, want})
}

// TestSkips: where a Skip leads.
func TestSkips(t *testing.T) {
	for _, x := range []struct {
		what       string
		a, b       api.Range
		goes, skip bool
	}{
		{"surely below", api.Range{Low: 0, High: 1}, api.Range{Low: 2, High: 3}, false, true},
		{"High just at Low", api.Range{Low: 0, High: 2}, api.Range{Low: 2, High: 3}, true, true},
		{"equal numbers", api.Range{Low: 2, High: 2}, api.Range{Low: 2, High: 2}, true, false},
		{"Low just at High", api.Range{Low: 2, High: 4}, api.Range{Low: 0, High: 2}, true, false},
		{"Low just below High", api.Range{Low: 1, High: 4}, api.Range{Low: 0, High: 2}, true, true},
		{"surely above", api.Range{Low: 3, High: 4}, api.Range{Low: 1, High: 2}, true, false},
		{"one inside", api.Range{Low: -999, High: 999}, api.Range{Low: 0, High: 0}, true, true},
	} {
		p := []api.Line{skip(2, 0, 1), set(2, 9), {}, set(3, 7)}
		b := []api.Range{x.a, x.b, {}, {}}
		boxes := [][]api.Range{b, nil, nil, b, nil}
		nine := []api.Range{x.a, x.b, {Low: 9, High: 9}, {}}
		if x.goes {
			boxes[1], boxes[2], boxes[3] = b, nine, nine
		}
		if x.goes && x.skip {
			boxes[3] = []api.Range{x.a, x.b, {Low: 0, High: 9}, {}}
		}
		boxes[4] = slices.Clone(boxes[3])
		boxes[4][3] = api.Range{Low: 7, High: 7}
		expectSpans(t, x.what, spansOf(t, p, b), boxes)
	}
}

// TestPrograms: examples of whole programs.
func TestPrograms(t *testing.T) {
	b, nine := box(0, 4, 2, 2, 0, 0, 0, 0), box(0, 4, 2, 2, 9, 9, 0, 0)
	both := box(0, 4, 2, 2, 0, 9, 0, 0)
	any := box(-999, 999, -999, 999, -999, 999, -999, 999)
	six := box(6, 6, -999, 999, -999, 999, -999, 999)
	three := box(3, 3, -999, 999, -999, 999, -999, 999)
	wide := box(0, 0, 0, 5, 0, 0, 0, 0)
	for _, x := range []struct {
		what  string
		p     []api.Line
		boxes [][]api.Range
	}{
		{"no lines", nil, [][]api.Range{b}},
		{"the document's example, from any state", sample.Six(), [][]api.Range{any, three, six}},
		{"a register and itself", []api.Line{skip(8, 1, 1), set(2, 9)}, [][]api.Range{wide, wide, box(0, 0, 0, 5, 9, 9, 0, 0)}},
		{"the next line, or the end just behind it", []api.Line{skip(1, 0, 1), set(2, 9)}, [][]api.Range{b, b, both}},
		{"the next line, or far behind the end", []api.Line{skip(8, 0, 1), set(2, 9)}, [][]api.Range{b, b, both}},
		{"a Skip at the end", []api.Line{set(2, 9), skip(1, 0, 1)}, [][]api.Range{b, nine, nine}},
		{"to the end, over lines that are dead", []api.Line{skip(8, 3, 1), set(2, 9), skip(1, 0, 1), {}}, [][]api.Range{b, nil, nil, nil, b}},
		{"a dead Skip leads nowhere", []api.Line{skip(2, 3, 1), skip(1, 0, 1), set(3, 8), set(2, 9)}, [][]api.Range{b, nil, nil, b, nine}},
		{"two ways to a line, then one more", []api.Line{skip(2, 0, 1), set(2, 5), skip(1, 1, 0), set(2, 9), set(3, 1)}, [][]api.Range{
			b, b, box(0, 4, 2, 2, 5, 5, 0, 0), box(0, 4, 2, 2, 0, 5, 0, 0), box(0, 4, 2, 2, 5, 9, 0, 0), box(0, 4, 2, 2, 5, 9, 1, 1)}},
	} {
		expectSpans(t, x.what, spansOf(t, x.p, x.boxes[0]), x.boxes)
	}
}

// TestSpansOfMany holds P6.3, with its consequences, against the model and against runs.
func TestSpansOfMany(t *testing.T) {
	m := sample.New()
	dead, ways := 0, 0
	for range 10000 {
		p, b := m.Program(), m.Box()
		boxes := modelBoxes(p, b)
		s := spansOf(t, p, b)
		expectSpans(t, "a program of many", s, boxes)
		dead += len(s.dead)
		for range 4 {
			holdRun(t, p, m.In(b), s)
		}
		in := m.In(b)
		holdPoint(t, p, in)
		part := m.Part(b)
		less, _ := span.After(p, part)
		if is, e := span.Within(less, s.after); e != api.OK || !is {
			t.Fatal("P6.3: After of a part:", p, b, part, less, s.after)
		}
		if done, _ := code.Done(p, in); len(done) < len(s.reached) {
			ways++
		}
	}
	if dead < 1000 || ways < 200 {
		t.Error("too few programs of a kind:", dead, ways)
	}
}

// holdRun holds a run from a state in a box against the spans from this box.
func holdRun(t *testing.T, p []api.Line, in []int, s spans) {
	t.Helper()
	end, _ := code.Run(p, in)
	if !modelHas(s.after, end) {
		t.Fatal("S6: the end of a run:", p, in, end, s.after)
	}
	done, _ := code.Done(p, in)
	for _, line := range done {
		state, _, _ := code.Before(p, in, line)
		if !slices.Contains(s.reached, line) || !modelHas(s.before[line], state) {
			t.Fatal("S6: a line that is done:", p, in, line, state, s.before[line])
		}
	}
}

// holdPoint holds the spans from one state against the run from it.
func holdPoint(t *testing.T, p []api.Line, in []int) {
	t.Helper()
	point, _ := span.Point(in)
	after, _ := span.After(p, point)
	end, _ := code.Run(p, in)
	want, _ := span.Point(end)
	reached, _ := span.Reached(p, point)
	done, _ := code.Done(p, in)
	if !slices.Equal(after, want) || !slices.Equal(reached, done) {
		t.Fatal("P6.3: from one state:", p, in, after, want, reached, done)
	}
}

// TestEachStateOfBox holds S6 for all states of small boxes.
func TestEachStateOfBox(t *testing.T) {
	m := sample.New()
	for range 200 {
		p, c := m.Program(), m.Contract()
		b := modelOf(c)
		s := spansOf(t, p, b)
		for in := range states(b) {
			holdRun(t, p, in, s)
		}
	}
}

// states goes through the states of a box.
func states(b []api.Range) func(yield func(in []int) bool) {
	return func(yield func(in []int) bool) {
		for i := b[0].Low; i <= b[0].High; i++ {
			for j := b[1].Low; j <= b[1].High; j++ {
				for k := b[2].Low; k <= b[2].High; k++ {
					for l := b[3].Low; l <= b[3].High; l++ {
						if !yield([]int{i, j, k, l}) {
							return
						}
					}
				}
			}
		}
	}
}
