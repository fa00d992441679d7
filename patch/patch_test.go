package patch_test

import (
	"slices"
	"testing"

	"tinker/api"
	"tinker/patch"
	"tinker/sample"
)

// modelDo puts the lines of edits into a copy of a program.
func modelDo(p []api.Line, x []api.Edit) []api.Line {
	q := append([]api.Line{}, p...)
	for i := range q {
		for _, edit := range x {
			if edit.At == i {
				q[i] = edit.Line
			}
		}
	}
	return q
}

// TestExamples are those of the chapter and a few more: a patch with all that P4.2 says of it.
func TestExamples(t *testing.T) {
	move, skip := api.Line{Op: api.Copy, A: 1}, api.Line{Op: api.Skip, To: 1, A: 2, B: 3}
	for _, c := range []struct {
		x              []api.Edit
		after          []api.Line
		inverse, clean []api.Edit
		size           int
		touches        []int
	}{
		{nil, six(), nil, nil, 0, nil},
		{one(0, set(4)), []api.Line{set(4), double()}, one(0, set(3)), one(0, set(4)), 1, []int{0}},
		{one(1, double()), six(), one(1, double()), nil, 0, []int{1}},
		{one(1, skip), []api.Line{set(3), skip}, one(1, double()), one(1, skip), 4, []int{1}},
		{one(0, api.Line{Op: api.Set, To: 2, A: 3}), []api.Line{{Op: api.Set, To: 2, A: 3}, double()}, one(0, set(3)), one(0, api.Line{Op: api.Set, To: 2, A: 3}), 1, []int{0}},
		{one(1, api.Line{Op: api.Add, B: 1}), []api.Line{set(3), {Op: api.Add, B: 1}}, one(1, double()), one(1, api.Line{Op: api.Add, B: 1}), 1, []int{1}},
		{one(1, api.Line{Op: api.Subtract}), []api.Line{set(3), {Op: api.Subtract}}, one(1, double()), one(1, api.Line{Op: api.Subtract}), 1, []int{1}},
		{append(one(0, set(3)), one(1, move)...), []api.Line{set(3), move}, append(one(0, set(3)), one(1, double())...), one(1, move), 2, []int{0, 1}},
		{append(one(0, api.Line{}), one(1, move)...), []api.Line{{}, move}, append(one(0, set(3)), one(1, double())...), append(one(0, api.Line{}), one(1, move)...), 4, []int{0, 1}},
	} {
		after, e := patch.Do(six(), c.x)
		inverse, f := patch.Inverse(six(), c.x)
		if e != api.OK || f != api.OK || !slices.Equal(after, c.after) || !slices.Equal(inverse, c.inverse) {
			t.Error("P4.2: Do, Inverse:", c.x, after, e, inverse, f)
		}
		clean, e := patch.Clean(six(), c.x)
		diff, f := patch.Diff(six(), c.after)
		if e != api.OK || f != api.OK || !slices.Equal(clean, c.clean) || !slices.Equal(diff, c.clean) {
			t.Error("P4.2: Clean, Diff:", c.x, clean, e, diff, f)
		}
		size, e := patch.Size(six(), c.x)
		touches, f := patch.Touches(c.x)
		if e != api.OK || f != api.OK || size != c.size || !slices.Equal(touches, c.touches) {
			t.Error("P4.2: Size, Touches:", c.x, size, e, touches, f)
		}
	}
	if set, e := patch.Touches(sets(1, 4, 6, 7)); e != api.OK || !slices.Equal(set, []int{1, 4, 6, 7}) {
		t.Error("P4.2: Touches asks for no program:", set, e)
	}
}

func TestDiff(t *testing.T) {
	none, full := make([]api.Line, 8), []api.Line{set(0), set(1), set(2), set(3), set(4), set(5), set(6), set(7)}
	for _, c := range []struct {
		p, q []api.Line
		x    []api.Edit
		want api.Errno
	}{
		{nil, nil, nil, api.OK}, {full, full, nil, api.OK},
		{none, append(slices.Clone(full[:4]), none[4:]...), sets(0, 1, 2, 3), api.OK},
		{none, append(slices.Clone(none[:4]), full[4:]...), sets(4, 5, 6, 7), api.OK},
		{none[:4], full[:4], sets(0, 1, 2, 3), api.OK},
		{none, append(slices.Clone(full[:5]), none[5:]...), nil, api.ErrLarge},
		{none, full, nil, api.ErrLarge}, {none[:5], full[:5], nil, api.ErrLarge},
		{six(), nil, nil, api.ErrFit}, {nil, six(), nil, api.ErrFit}, {six(), six()[:1], nil, api.ErrFit}, {full, none[:7], nil, api.ErrFit},
	} {
		if x, e := patch.Diff(c.p, c.q); e != c.want || !slices.Equal(x, c.x) {
			t.Error("P4.2: Diff:", c.p, c.q, x, e)
		}
	}
}

// TestPatches holds P4.2 against the model and its consequence, for many patches.
func TestPatches(t *testing.T) {
	m := sample.New()
	for range 5000 {
		p := m.Program()
		x := m.Patch(p)
		q, e := patch.Do(p, x)
		if e != api.OK || !slices.Equal(q, modelDo(p, x)) {
			t.Fatal("P4.2: Do:", p, x, q, e)
		}
		back, e := patch.Inverse(p, x)
		again, f := patch.Do(q, back)
		set, g := patch.Touches(back)
		touches, _ := patch.Touches(x)
		if e != api.OK || f != api.OK || g != api.OK || !slices.Equal(again, p) || !slices.Equal(set, touches) {
			t.Fatal("S4: Inverse:", p, x, back, e, again, f)
		}
		var changed []api.Edit
		size := 0
		for _, edit := range x {
			l, old := edit.Line, p[edit.At]
			if l != old {
				changed = append(changed, edit)
			}
			for i, field := range []int{l.Op, l.To, l.A, l.B} {
				if field != []int{old.Op, old.To, old.A, old.B}[i] {
					size++
				}
			}
		}
		if y, e := patch.Clean(p, x); e != api.OK || !slices.Equal(y, changed) {
			t.Fatal("P4.2: Clean:", p, x, y, e)
		}
		if n, e := patch.Size(p, x); e != api.OK || n != size {
			t.Fatal("P4.2: Size:", p, x, n, size, e)
		}
	}
}

// TestDiffMakesTheOther: Diff, done to p, makes q.
func TestDiffMakesTheOther(t *testing.T) {
	m := sample.New()
	large := 0
	for range 5000 {
		p := m.Program()
		q := m.Change(p)
		differ := 0
		for i, l := range p {
			if l != q[i] {
				differ++
			}
		}
		x, e := patch.Diff(p, q)
		if differ > 4 {
			large++
			if e != api.ErrLarge || len(x) != 0 {
				t.Fatal("P4.2: Diff:", p, q, x, e)
			}
			continue
		}
		r, f := patch.Do(p, x)
		if e != api.OK || f != api.OK || len(x) != differ || !slices.Equal(r, q) {
			t.Fatal("S4: Diff:", p, q, x, e, f)
		}
	}
	if large < 100 || large > 4000 {
		t.Error("too few programs of a kind:", large)
	}
}
