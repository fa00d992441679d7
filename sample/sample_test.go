package sample_test

import (
	"slices"
	"testing"

	"tinker/api"
	"tinker/check"
	"tinker/code"
	"tinker/patch"
	"tinker/sample"
	"tinker/span"
	"tinker/story"
)

// TestLines: the lines are all valid, and each comes once.
func TestLines(t *testing.T) {
	lines := map[api.Line]bool{}
	for _, l := range sample.Lines() {
		if e := code.ValidateLine(l); e != api.OK || lines[l] {
			t.Error(l, e)
		}
		lines[l] = true
	}
	if len(lines) != 477 {
		t.Error(len(lines), "lines")
	}
	if code.ValidateLine(sample.BadLine()) != api.ErrArg || code.Validate(sample.TooLong()) != api.ErrLarge {
		t.Error("a bad line or a long program is valid")
	}
}

// TestSetsAndOrders: all of them, in ascending order and each once.
func TestSetsAndOrders(t *testing.T) {
	for n, want := range map[int][][]int{0: {nil}, 1: {nil, {0}}, 2: {nil, {0}, {0, 1}, {1}}, 3: {nil, {0}, {0, 1}, {0, 1, 2}, {0, 2}, {1}, {1, 2}, {2}}} {
		if list := sample.Sets(n); !slices.EqualFunc(list, want, slices.Equal) {
			t.Error("sets:", n, list)
		}
	}
	for n, want := range map[int][][]int{0: {nil}, 1: {{0}}, 2: {{0, 1}, {1, 0}}, 3: {{0, 1, 2}, {0, 2, 1}, {1, 0, 2}, {1, 2, 0}, {2, 0, 1}, {2, 1, 0}}} {
		if list := sample.Orders(n); !slices.EqualFunc(list, want, slices.Equal) {
			t.Error("orders:", n, list)
		}
	}
	if sets, orders := sample.Sets(10), sample.Orders(8); len(sets) != 1024 || len(orders) != 40320 || !slices.IsSortedFunc(sets, slices.Compare) || !slices.IsSortedFunc(orders, slices.Compare) {
		t.Error(len(sets), "sets,", len(orders), "orders")
	}
}

// TestMaker: what a maker makes is valid, the same each time, and of many kinds.
func TestMaker(t *testing.T) {
	m, n := sample.New(), sample.New()
	passing, failing, boxes := 0, 0, map[int]bool{}
	for range 1000 {
		p, c := m.Program(), m.Contract()
		l := m.Tests(p)
		if q := n.Program(); !slices.Equal(p, q) || n.Contract().Out != c.Out || len(n.Tests(q)) != len(l) {
			t.Fatal("R11: two makers differ")
		}
		if e := code.Validate(p); e != api.OK {
			t.Fatal(p, e)
		}
		good, e := check.Passing(p, l)
		if e != api.OK {
			t.Fatal(l, e)
		}
		passing, failing = passing+len(good), failing+len(l)-len(good)
		size, e := check.Box(c)
		if e != api.OK {
			t.Fatal(c, e)
		}
		boxes[size] = true
	}
	if passing < 1000 || failing < 1000 || len(boxes) < 50 {
		t.Error(passing, failing, len(boxes))
	}
}

// TestSpoil: whoever shares a spoiled list, or the room behind it, is found.
func TestSpoil(t *testing.T) {
	list := []int{1, 2, 3, 4}
	if !sample.Spoil(list[:2]) || sample.Spoil(list[:1]) || sample.Spoil(list[3:]) || sample.Spoil(nil) {
		t.Error(list)
	}
	lines, mark := make([]api.Line, 4), sample.BadLine()
	if !sample.SpoilWith(lines[:2], mark) || sample.SpoilWith(lines[3:], mark) || sample.SpoilWith(nil, mark) {
		t.Error(lines)
	}
}

// TestPatch: patches for a program are valid, of all sizes, and some of their edits change nothing, one field or more.
func TestPatch(t *testing.T) {
	m := sample.New()
	sizes, changed := map[int]int{}, map[int]int{}
	for range 2000 {
		p := m.Program()
		x := m.Patch(p)
		if e := patch.Validate(x); e != api.OK {
			t.Fatal(x, e)
		}
		for _, edit := range x {
			size, e := patch.Size(p, []api.Edit{edit})
			if e != api.OK {
				t.Fatal(p, x, e)
			}
			changed[size]++
		}
		sizes[len(x)]++
	}
	for n := range 5 {
		if sizes[n] < 100 || changed[n] < 100 {
			t.Error(n, sizes, changed)
		}
	}
}

// TestHistory: histories are valid, of all lengths; of their repairs many have one edit, some have more, some change nothing; the program stays as it is.
func TestHistory(t *testing.T) {
	m := sample.New()
	lengths, sizes, idle := map[int]int{}, map[int]int{}, 0
	for range 2000 {
		p := m.Program()
		before := slices.Clone(p)
		h := m.History(p)
		if e := story.Validate(p, h); e != api.OK || !slices.Equal(p, before) {
			t.Fatal(before, p, h, e)
		}
		set, e := story.Idle(p, h)
		if e != api.OK {
			t.Fatal(p, h, e)
		}
		for _, n := range set {
			if len(h[n]) > 0 {
				idle++
			}
		}
		for _, x := range h {
			sizes[len(x)]++
		}
		lengths[len(h)]++
	}
	for n := range 9 {
		if lengths[n] < 100 || n < 5 && sizes[n] < 100 {
			t.Error(n, lengths, sizes)
		}
	}
	if sizes[1] < 3000 || idle < 500 {
		t.Error(sizes, idle)
	}
}

// TestChange: a changed program is valid, and the program itself is not.
func TestChange(t *testing.T) {
	m := sample.New()
	for range 1000 {
		p := m.Program()
		before := slices.Clone(p)
		q := m.Change(p)
		if e := code.Validate(q); e != api.OK || len(q) != len(p) || !slices.Equal(p, before) {
			t.Fatal(before, p, q, e)
		}
	}
}

// TestBox: boxes are valid, their ranges are of all kinds; a state of a box is in it, and so is a part.
func TestBox(t *testing.T) {
	m := sample.New()
	points, narrow, wide, less := 0, 0, 0, 0
	for range 1000 {
		b := m.Box()
		in, part := m.In(b), m.Part(b)
		if has, e := span.Has(b, in); e != api.OK || !has {
			t.Fatal(b, in, has, e)
		}
		if is, e := span.Within(part, b); e != api.OK || !is {
			t.Fatal(b, part, is, e)
		}
		if !slices.Equal(part, b) {
			less++
		}
		for _, x := range b {
			switch {
			case x.Low == x.High:
				points++
			case x.High-x.Low < 6:
				narrow++
			default:
				wide++
			}
		}
	}
	if points < 500 || narrow < 500 || wide < 500 || less < 500 {
		t.Error(points, narrow, wide, less)
	}
}
