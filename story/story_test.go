package story_test

import (
	"slices"
	"testing"

	"tinker/api"
	"tinker/patch"
	"tinker/sample"
	"tinker/story"
)

// put is an edit that sets the register 0 at a place.
func put(at, n int) api.Edit {
	return api.Edit{At: at, Line: api.Line{Op: api.Set, A: n}}
}

// set is a line that sets the register 0.
func set(n int) api.Line { return put(0, n).Line }

// sets is a repair that sets the register 0 to n at each of the places.
func sets(n int, places ...int) []api.Edit {
	var x []api.Edit
	for _, at := range places {
		x = append(x, put(at, n))
	}
	return x
}

// history makes a repair of each list of places; the repair n sets the register 0 to n + 1 there.
func history(places ...[]int) [][]api.Edit {
	var h [][]api.Edit
	for n, list := range places {
		h = append(h, sets(n+1, list...))
	}
	return h
}

// three are the repairs of the document's first example: one of the line 0, one of the line 1, one of both.
func three() [][]api.Edit { return history([]int{0}, []int{1}, []int{0, 1}) }

// nine is a program of two lines.
func nine() []api.Line { return []api.Line{set(9), {}} }

// nones is a program of n lines that do nothing.
func nones(n int) []api.Line { return make([]api.Line, n) }

func TestPlay(t *testing.T) {
	mixed := [][]api.Edit{sets(1, 0, 2), nil, {put(1, 5), {At: 2}}, sets(2, 0)}
	for _, x := range []struct {
		p    []api.Line
		h    [][]api.Edit
		want [][]api.Line
	}{
		{nil, nil, [][]api.Line{nil}},
		{nil, make([][]api.Edit, 8), make([][]api.Line, 9)},
		{nine(), nil, [][]api.Line{nine()}},
		{nine(), three(), [][]api.Line{nine(), {set(1), {}}, {set(1), set(2)}, {set(3), set(3)}}},
		{nones(3), mixed, [][]api.Line{nones(3), {set(1), {}, set(1)}, {set(1), {}, set(1)}, {set(1), set(5), {}}, {set(2), set(5), {}}}},
	} {
		for n, want := range x.want {
			if q, e := story.At(x.p, x.h, n); e != api.OK || !slices.Equal(q, want) {
				t.Error("P7.2: At:", x.p, x.h, n, q, e)
			}
		}
		if q, e := story.Play(x.p, x.h); e != api.OK || !slices.Equal(q, x.want[len(x.h)]) {
			t.Error("P7.2: Play:", x.p, x.h, q, e)
		}
	}
}

func TestNeeds(t *testing.T) {
	for _, x := range []struct {
		what                  string
		h                     [][]api.Edit
		direct, needs, needed [][]int
	}{
		{"the document's example", three(), [][]int{nil, nil, {0, 1}}, [][]int{nil, nil, {0, 1}}, [][]int{{2}, {2}, nil}},
		{"a chain", history([]int{0}, []int{0, 1}, []int{1, 2}, []int{2}), [][]int{nil, {0}, {1}, {2}}, [][]int{nil, {0}, {0, 1}, {0, 1, 2}}, [][]int{{1, 2, 3}, {2, 3}, {3}, nil}},
		{"the same line", history([]int{5}, []int{5}, []int{5}), [][]int{nil, {0}, {0, 1}}, [][]int{nil, {0}, {0, 1}}, [][]int{{1, 2}, {2}, nil}},
		{"empty repairs", history(nil, []int{3}, nil, []int{3}), [][]int{nil, nil, nil, {1}}, [][]int{nil, nil, nil, {1}}, [][]int{nil, {3}, nil, nil}},
		{"the same repair again, which changes nothing", [][]api.Edit{sets(4, 7), sets(4, 7)}, [][]int{nil, {0}}, [][]int{nil, {0}}, [][]int{{1}, nil}},
		{"other lines", history([]int{0, 2, 4, 6}, []int{1, 3, 5, 7}), make([][]int, 2), make([][]int, 2), make([][]int, 2)},
		{"the last place alone in common", history([]int{0, 1, 2, 7}, []int{3, 4, 5, 7}), [][]int{nil, {0}}, [][]int{nil, {0}}, [][]int{{1}, nil}},
		{"a later one that is between two", history([]int{0}, []int{1}, []int{0, 1}, []int{1}, []int{0}),
			[][]int{nil, nil, {0, 1}, {1, 2}, {0, 2}}, [][]int{nil, nil, {0, 1}, {0, 1, 2}, {0, 1, 2}}, [][]int{{2, 3, 4}, {2, 3, 4}, {3, 4}, nil, nil}},
	} {
		for n := range x.h {
			direct, e := story.Direct(nones(8), x.h, n)
			needs, f := story.Needs(nones(8), x.h, n)
			needed, g := story.Needed(nones(8), x.h, n)
			if e != api.OK || f != api.OK || g != api.OK || !slices.Equal(direct, x.direct[n]) || !slices.Equal(needs, x.needs[n]) || !slices.Equal(needed, x.needed[n]) {
				t.Errorf("P7.2: %s: %d: %v %v %v", x.what, n, direct, needs, needed)
			}
		}
	}
}

func TestWho(t *testing.T) {
	h := history([]int{0, 3}, []int{1}, nil, []int{0, 4}, []int{1}, nil)
	for line, want := range []int{3, 4, -1, 0, 3, -1, -1, -1} {
		n, is, e := story.Who(nones(8), h, line)
		if e != api.OK || is != (want >= 0) || n != max(want, 0) {
			t.Error("P7.2: Who:", line, n, is, e)
		}
	}
	if n, is, e := story.Who(nine(), [][]api.Edit{{{At: 1}}}, 1); e != api.OK || n != 0 || !is {
		t.Error("P7.2: Who: what changes nothing touches a line too:", n, is, e)
	}
	if n, is, e := story.Who(nine(), nil, 1); e != api.OK || n != 0 || is {
		t.Error("P7.2: Who without repairs:", n, is, e)
	}
}

func TestIdle(t *testing.T) {
	for _, x := range []struct {
		h    [][]api.Edit
		want []int
	}{
		{nil, nil}, {make([][]api.Edit, 3), []int{0, 1, 2}}, {three(), nil}, {[][]api.Edit{sets(9, 0), sets(9, 1), sets(9, 0, 1), {{At: 1}}, {{At: 1}}}, []int{0, 2, 4}},
		{[][]api.Edit{sets(1, 0), sets(9, 0), sets(9, 0), sets(1, 0)}, []int{2}}, {[][]api.Edit{{put(0, 9), put(1, 3)}, {put(0, 8), put(1, 3)}}, nil},
	} {
		if set, e := story.Idle(nine(), x.h); e != api.OK || !slices.Equal(set, x.want) {
			t.Error("P7.2: Idle:", x.h, set, e)
		}
	}
}

func TestRevert(t *testing.T) {
	// The repair 3 needs 1 and by way of it 0; the repair 4 needs 2; 5 is empty.
	h := history([]int{0}, []int{0, 1}, []int{4}, []int{1, 2}, []int{4, 5}, nil)
	for _, x := range []struct {
		set, left []int
		want      []api.Line
	}{
		{nil, []int{0, 1, 2, 3, 4, 5}, []api.Line{set(2), set(4), set(4), {}, set(5), set(5)}},
		{[]int{0}, []int{2, 4, 5}, []api.Line{{}, {}, {}, {}, set(5), set(5)}},
		{[]int{1}, []int{0, 2, 4, 5}, []api.Line{set(1), {}, {}, {}, set(5), set(5)}},
		{[]int{3}, []int{0, 1, 2, 4, 5}, []api.Line{set(2), set(2), {}, {}, set(5), set(5)}},
		{[]int{4, 5}, []int{0, 1, 2, 3}, []api.Line{set(2), set(4), set(4), {}, set(3), {}}},
		{[]int{1, 2}, []int{0, 5}, []api.Line{set(1), {}, {}, {}, {}, {}}},
		{[]int{0, 2}, []int{5}, nones(6)},
		{[]int{0, 1, 2, 3, 4, 5}, nil, nones(6)},
	} {
		q, left, e := story.Revert(nones(6), h, x.set)
		if e != api.OK || !slices.Equal(q, x.want) || !slices.Equal(left, x.left) {
			t.Error("P7.4: Revert:", x.set, q, left, e)
		}
	}
	// The document's example: without the first one, the second one alone is left.
	if q, left, e := story.Revert(nine(), three(), []int{0}); e != api.OK || !slices.Equal(q, []api.Line{set(9), set(2)}) || !slices.Equal(left, []int{1}) {
		t.Error("P7.4: Revert:", q, left, e)
	}
	if q, left, e := story.Revert(nine(), nil, nil); e != api.OK || !slices.Equal(q, nine()) || len(left) != 0 {
		t.Error("P7.4: Revert without repairs:", q, left, e)
	}
}

func TestSquash(t *testing.T) {
	for _, x := range []struct {
		h    [][]api.Edit
		want []api.Edit
		e    api.Errno
	}{
		{nil, nil, api.OK},
		{[][]api.Edit{sets(1, 0), nil, sets(2, 1)}, []api.Edit{put(0, 1), put(1, 2)}, api.OK},
		{[][]api.Edit{sets(1, 3, 4), sets(2, 3), sets(1, 0)}, []api.Edit{put(0, 1), put(3, 2), put(4, 1)}, api.OK},
		{[][]api.Edit{sets(1, 0, 1, 2, 3), {{At: 0}, {At: 1}, {At: 2}, {At: 3}}}, nil, api.OK},
		{[][]api.Edit{sets(1, 0, 1, 2, 3), {{At: 3}}, sets(2, 7)}, []api.Edit{put(0, 1), put(1, 1), put(2, 1), put(7, 2)}, api.OK},
		{[][]api.Edit{sets(1, 0, 1, 2, 3), sets(2, 0, 1, 2, 3)}, sets(2, 0, 1, 2, 3), api.OK},
		{[][]api.Edit{sets(1, 0, 1, 2, 3), {{At: 4}}}, sets(1, 0, 1, 2, 3), api.OK},
		{[][]api.Edit{sets(1, 0, 1, 2, 3), sets(1, 4)}, nil, api.ErrLarge},
		{[][]api.Edit{sets(1, 0, 1, 2, 3), sets(1, 4, 5, 6, 7)}, nil, api.ErrLarge},
	} {
		if y, e := story.Squash(nones(8), x.h); e != x.e || !slices.Equal(y, x.want) {
			t.Error("P7.4: Squash:", x.h, y, e)
		}
	}
}

// TestMany holds P7.2 and P7.4 against the model, with their consequences.
func TestMany(t *testing.T) {
	m := sample.New()
	kinds := map[string]int{}
	for range 5000 {
		p := m.Program()
		h := m.History(p)
		holdPrograms(t, p, h, kinds)
		holdNeeds(t, p, h, kinds)
		holdLines(t, p, h, kinds)
		var set []int
		for n := range h {
			if m.Below(4) == 0 {
				set = append(set, n)
			}
		}
		holdRevert(t, p, h, set, kinds)
		holdSquash(t, p, h, kinds)
	}
	for _, kind := range []string{"idle", "needed by way of others", "a line that no repair touches", "reverted and more", "reverted and some left", "too large", "a patch"} {
		if kinds[kind] < 100 {
			t.Error("too few of a kind:", kind, kinds)
		}
	}
}

func count(kinds map[string]int, kind string, is bool) {
	if is {
		kinds[kind]++
	}
}

// holdPrograms holds Play, At and Idle against the programs of the model.
func holdPrograms(t *testing.T, p []api.Line, h [][]api.Edit, kinds map[string]int) {
	t.Helper()
	programs := modelPrograms(p, h)
	for n, want := range programs {
		if q, e := story.At(p, h, n); e != api.OK || !slices.Equal(q, want) {
			t.Fatal("P7.2: At:", p, h, n, q, e)
		}
	}
	if q, e := story.Play(p, h); e != api.OK || !slices.Equal(q, programs[len(h)]) {
		t.Fatal("P7.2: Play:", p, h, q, e)
	}
	idle := numbers(func(n int) bool { return n < len(h) && slices.Equal(programs[n], programs[n+1]) })
	if set, e := story.Idle(p, h); e != api.OK || !slices.Equal(set, idle) {
		t.Fatal("P7.2: Idle:", p, h, set, e)
	}
	count(kinds, "idle", len(idle) > 0)
}

// holdNeeds holds Direct, Needs and Needed against the tables of the model.
func holdNeeds(t *testing.T, p []api.Line, h [][]api.Edit, kinds map[string]int) {
	t.Helper()
	near, far := modelDirect(h), modelNeeds(h)
	for n := range h {
		direct, e := story.Direct(p, h, n)
		needs, f := story.Needs(p, h, n)
		needed, g := story.Needed(p, h, n)
		if e != api.OK || f != api.OK || g != api.OK || !slices.Equal(direct, near.row(n)) || !slices.Equal(needs, far.row(n)) || !slices.Equal(needed, far.column(n)) {
			t.Fatal("P7.2: Direct, Needs, Needed:", p, h, n, direct, e, needs, f, needed, g)
		}
		count(kinds, "needed by way of others", len(direct) < len(needs))
	}
}

// holdLines holds Who against the repairs, and the consequence of P7.2: the line that is at a place in the end is that of Who, or the program's own.
func holdLines(t *testing.T, p []api.Line, h [][]api.Edit, kinds map[string]int) {
	t.Helper()
	end, _ := story.Play(p, h)
	for line, own := range p {
		who, some, last := 0, false, own
		for n, x := range h {
			for _, edit := range x {
				if edit.At == line {
					who, some, last = n, true, edit.Line
				}
			}
		}
		if n, is, e := story.Who(p, h, line); e != api.OK || n != who || is != some || end[line] != last {
			t.Fatal("P7.2: Who:", p, h, line, n, is, e)
		}
		count(kinds, "a line that no repair touches", !some)
	}
}

// holdRevert holds Revert against the model; also of the empty set and of all repairs.
func holdRevert(t *testing.T, p []api.Line, h [][]api.Edit, set []int, kinds map[string]int) {
	t.Helper()
	numbersLeft, rest := modelRevert(h, set)
	q, left, e := story.Revert(p, h, set)
	if e != api.OK || !slices.Equal(q, modelEnd(p, rest)) || !slices.Equal(left, numbersLeft) {
		t.Fatal("P7.4: Revert:", p, h, set, q, left, e)
	}
	count(kinds, "reverted and more", len(left)+len(set) < len(h))
	count(kinds, "reverted and some left", len(left) > 0 && len(set) > 0)
	all := numbers(func(n int) bool { return n < len(h) })
	if q, left, e := story.Revert(p, h, nil); e != api.OK || !slices.Equal(q, modelEnd(p, h)) || !slices.Equal(left, all) {
		t.Fatal("P7.4: Revert of the empty set is Play:", p, h, q, left, e)
	}
	if q, left, e := story.Revert(p, h, all); e != api.OK || !slices.Equal(q, p) || len(left) != 0 {
		t.Fatal("P7.4: Revert of all repairs is the program:", p, h, q, left, e)
	}
}

// holdSquash holds Squash against the lines that differ in the end.
func holdSquash(t *testing.T, p []api.Line, h [][]api.Edit, kinds map[string]int) {
	t.Helper()
	end := modelEnd(p, h)
	var want []api.Edit
	for at, l := range end {
		if l != p[at] {
			want = append(want, api.Edit{At: at, Line: l})
		}
	}
	x, e := story.Squash(p, h)
	if len(want) > api.MaxEdits {
		if e != api.ErrLarge || len(x) != 0 {
			t.Fatal("P7.4: Squash:", p, h, x, e)
		}
		kinds["too large"]++
		return
	}
	if e != api.OK || !slices.Equal(x, want) {
		t.Fatal("P7.4: Squash:", p, h, x, e)
	}
	if q, e := patch.Do(p, x); e != api.OK || !slices.Equal(q, end) {
		t.Fatal("P7.4: the patch of Squash makes the program of Play:", p, h, x, q, e)
	}
	count(kinds, "a patch", len(x) > 1)
}
