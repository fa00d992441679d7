package patch_test

import (
	"slices"
	"testing"

	"tinker/api"
	"tinker/code"
	"tinker/patch"
	"tinker/sample"
)

func TestOfTests(t *testing.T) {
	eight := append(one(0, set(4)), one(1, double())...)
	both := append(one(0, set(7)), one(1, api.Line{})...)
	for _, c := range []struct {
		x                []api.Edit
		wants            []int
		fixes, breaks    []int
		good, minimal    bool
		reduce, smallest []api.Edit
		some             bool
	}{
		{x: nil, wants: nil, good: true, minimal: true, some: true},
		{x: nil, wants: []int{6}, good: true, minimal: true, some: true},
		{x: nil, wants: []int{7}},
		{x: one(0, set(4)), wants: nil, good: true, some: true},
		{x: one(0, set(4)), wants: []int{6}, breaks: []int{0}, some: true},
		{x: one(0, set(4)), wants: []int{7, 5}},
		{x: one(0, set(4)), wants: []int{6, 8, 6, 7, 8}, fixes: []int{1, 4}, breaks: []int{0, 2}},
		{x: one(1, double()), wants: []int{6}, good: true, some: true},
		{x: one(0, set(4)), wants: []int{8}, fixes: []int{0}, good: true, minimal: true, reduce: one(0, set(4)), smallest: one(0, set(4)), some: true},
		{x: eight, wants: []int{8, 8}, fixes: []int{0, 1}, good: true, reduce: one(0, set(4)), smallest: one(0, set(4)), some: true},
		{x: both, wants: []int{7}, fixes: []int{0}, good: true, minimal: true, reduce: both, smallest: both, some: true},
		{x: append(one(0, set(4)), one(1, set(8))...), wants: []int{8}, fixes: []int{0}, good: true, reduce: one(0, set(4)), smallest: one(0, set(4)), some: true},
		{x: append(one(0, set(5)), one(1, set(8))...), wants: []int{8}, fixes: []int{0}, good: true, reduce: one(1, set(8)), smallest: one(1, set(8)), some: true},
		{x: append(one(0, set(4)), one(1, set(9))...), wants: []int{8}, smallest: one(0, set(4)), some: true},
	} {
		var l []api.Test
		for _, want := range c.wants {
			l = append(l, wants(0, want))
		}
		fixes, e := patch.Fixes(six(), c.x, l)
		breaks, f := patch.Breaks(six(), c.x, l)
		if e != api.OK || f != api.OK || !slices.Equal(fixes, c.fixes) || !slices.Equal(breaks, c.breaks) {
			t.Error("P4.5: Fixes, Breaks:", c.x, c.wants, fixes, e, breaks, f)
		}
		good, e := patch.IsGood(six(), c.x, l)
		minimal, f := patch.IsMinimal(six(), c.x, l)
		if e != api.OK || f != api.OK || good != c.good || minimal != c.minimal {
			t.Error("P4.5: IsGood, IsMinimal:", c.x, c.wants, good, e, minimal, f)
		}
		reduce, e := patch.Reduce(six(), c.x, l)
		if (e == api.OK) != c.good || (e == api.ErrRule) == c.good || !slices.Equal(reduce, c.reduce) {
			t.Error("P4.5: Reduce:", c.x, c.wants, reduce, e)
		}
		smallest, some, e := patch.Smallest(six(), c.x, l)
		if e != api.OK || some != c.some || !slices.Equal(smallest, c.smallest) {
			t.Error("P4.5: Smallest:", c.x, c.wants, smallest, some, e)
		}
	}
}

// TestReduceIsNotSmallest: no single edit can be left out, but three at once.
func TestReduceIsNotSmallest(t *testing.T) {
	add := func(from int) api.Line { return api.Line{Op: api.Add, To: 0, A: 0, B: from} }
	back := api.Line{Op: api.Subtract, To: 0, A: 0, B: 2}
	p, x := make([]api.Line, 4), []api.Edit{{At: 0, Line: add(1)}, {At: 1, Line: add(1)}, {At: 2, Line: add(2)}, {At: 3, Line: back}}
	l := []api.Test{{In: []int{3, 1, 2, 0}, Out: 0, Want: 5}}
	if reduce, e := patch.Reduce(p, x, l); e != api.OK || !slices.Equal(reduce, x) {
		t.Error("P4.5: Reduce:", reduce, e)
	}
	if minimal, e := patch.IsMinimal(p, x, l); e != api.OK || minimal {
		t.Error("P4.5: IsMinimal:", minimal, e)
	}
	if smallest, some, e := patch.Smallest(p, x, l); e != api.OK || !some || !slices.Equal(smallest, x[2:3]) {
		t.Error("P4.5: Smallest:", smallest, some, e)
	}
}

// TestFirstOfTheSmallest: of parts with as many edits the first places count, whatever comes behind them.
func TestFirstOfTheSmallest(t *testing.T) {
	set := func(to int) api.Line { return api.Line{Op: api.Set, To: to, A: 1} }
	for _, c := range []struct {
		registers []int
		want      []int
	}{{[]int{0, 0, 1, 1}, []int{0, 2}}, {[]int{0, 1, 1, 0}, []int{0, 1}}, {[]int{2, 0, 1, 0}, []int{1, 2}}, {[]int{0, 1, 0, 1}, []int{0, 1}}, {[]int{2, 3, 1, 0}, []int{2, 3}}} {
		var x []api.Edit
		for at, r := range c.registers {
			x = append(x, api.Edit{At: at, Line: set(r)})
		}
		smallest, some, e := patch.Smallest(make([]api.Line, 4), x, []api.Test{wants(0, 1), wants(1, 1)})
		places, _ := patch.Touches(smallest)
		if e != api.OK || !some || !slices.Equal(places, c.want) {
			t.Error("P4.5: Smallest:", c.registers, places, some, e)
		}
	}
}

// modelFails tells of each test whether a program fails it.
func modelFails(p []api.Line, l []api.Test) []bool {
	fails := make([]bool, len(l))
	for i, t := range l {
		end, _ := code.Run(p, t.In)
		fails[i] = end[t.Out] != t.Want
	}
	return fails
}

// modelIsGood reports whether no test fails after a patch.
func modelIsGood(p []api.Line, x []api.Edit, l []api.Test) bool {
	return !slices.Contains(modelFails(modelDo(p, x), l), true)
}

// modelSmallest goes through all choices of edits, and keeps the best good one.
func modelSmallest(p []api.Line, x []api.Edit, l []api.Test) ([]api.Edit, bool) {
	var best []api.Edit
	some := false
	for choice := range 1 << len(x) {
		var part []api.Edit
		for i, edit := range x {
			if choice>>i&1 == 1 {
				part = append(part, edit)
			}
		}
		if modelIsGood(p, part, l) && (!some || isBefore(part, best)) {
			best, some = part, true
		}
	}
	return best, some
}

// isBefore reports whether a patch has fewer edits than another one, or as many and the first other place before it.
func isBefore(x, y []api.Edit) bool {
	if len(x) != len(y) {
		return len(x) < len(y)
	}
	for i := range x {
		if x[i].At != y[i].At {
			return x[i].At < y[i].At
		}
	}
	return false
}

// modelReduce leaves out the edits at the places from 7 to 0.
func modelReduce(p []api.Line, x []api.Edit, l []api.Test) []api.Edit {
	for at := 7; at >= 0; at-- {
		var rest []api.Edit
		for _, edit := range x {
			if edit.At != at {
				rest = append(rest, edit)
			}
		}
		if modelIsGood(p, rest, l) {
			x = rest
		}
	}
	return x
}

// testsAfter returns tests for what a program is after a patch; it passes many of them, and often all.
func testsAfter(m *sample.Maker, p []api.Line, x []api.Edit) []api.Test {
	q := modelDo(p, x)
	l := m.Tests(q)
	if m.Below(4) > 0 {
		for i := range l {
			end, _ := code.Run(q, l[i].In)
			l[i].Want = end[l[i].Out]
		}
	}
	return l
}

// TestOfTestsOfMany holds P4.5 against the model, with its consequence.
func TestOfTestsOfMany(t *testing.T) {
	m := sample.New()
	kinds := map[string]int{}
	for range 20000 {
		p := m.Program()
		x := m.Patch(p)
		l := testsAfter(m, p, x)
		if m.Below(3) == 0 {
			x = meeting(m, p, x)
		}
		holdSets(t, p, x, l)
		holdParts(t, p, x, l, kinds)
	}
	for _, kind := range []string{"good", "not good", "minimal with 2 edits", "reduced", "reduced to more than the smallest", "a part alone is good", "no part is good"} {
		if kinds[kind] < 20 {
			t.Error("too few patches of a kind:", kind, kinds)
		}
	}
}

// holdSets holds Fixes and Breaks against the model.
func holdSets(t *testing.T, p []api.Line, x []api.Edit, l []api.Test) {
	t.Helper()
	var fixed, broken []int
	before, after := modelFails(p, l), modelFails(modelDo(p, x), l)
	for i := range l {
		if before[i] && !after[i] {
			fixed = append(fixed, i)
		}
		if !before[i] && after[i] {
			broken = append(broken, i)
		}
	}
	fixes, e := patch.Fixes(p, x, l)
	breaks, f := patch.Breaks(p, x, l)
	if e != api.OK || f != api.OK || !slices.Equal(fixes, fixed) || !slices.Equal(breaks, broken) {
		t.Fatal("P4.5: Fixes, Breaks:", p, x, l, fixes, e, breaks, f)
	}
	good, e := patch.IsGood(p, x, l)
	if e != api.OK || good != !slices.Contains(after, true) || good && (slices.Contains(before, true) != (len(fixes) > 0) || len(breaks) > 0) {
		t.Fatal("P4.5: IsGood:", p, x, l, good, fixes, breaks, e)
	}
}

// holdParts holds the functions that look at the parts against the model, and counts kinds of patches.
func holdParts(t *testing.T, p []api.Line, x []api.Edit, l []api.Test, kinds map[string]int) {
	t.Helper()
	good := modelIsGood(p, x, l)
	best, any := modelSmallest(p, x, l)
	smallest, some, e := patch.Smallest(p, x, l)
	if e != api.OK || some != any || !slices.Equal(smallest, best) {
		t.Fatal("P4.5: Smallest:", p, x, l, smallest, some, best, any, e)
	}
	minimal, e := patch.IsMinimal(p, x, l)
	if e != api.OK || minimal != (good && len(best) == len(x)) {
		t.Fatal("P4.5: IsMinimal:", p, x, l, minimal, e)
	}
	reduced, e := patch.Reduce(p, x, l)
	if !good {
		if e != api.ErrRule || len(reduced) != 0 {
			t.Fatal("P4.5: Reduce:", p, x, l, reduced, e)
		}
		count(kinds, "not good", true)
		count(kinds, "a part alone is good", any)
		count(kinds, "no part is good", !any)
		return
	}
	if e != api.OK || !slices.Equal(reduced, modelReduce(p, x, l)) || len(reduced) < len(smallest) {
		t.Fatal("S4: Reduce:", p, x, l, reduced, smallest, e)
	}
	if is, e := patch.IsGood(p, reduced, l); e != api.OK || !is {
		t.Fatal("S4: Reduce is good:", p, x, l, reduced, e)
	}
	count(kinds, "good", true)
	count(kinds, "minimal with 2 edits", minimal && len(x) > 1)
	count(kinds, "reduced", len(reduced) < len(x))
	count(kinds, "reduced to more than the smallest", len(reduced) > len(smallest))
}

func count(kinds map[string]int, kind string, is bool) {
	if is {
		kinds[kind]++
	}
}
