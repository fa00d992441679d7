package seek_test

import (
	"slices"
	"testing"

	"tinker/api"
	"tinker/code"
	"tinker/patch"
	"tinker/sample"
	"tinker/seek"
)

// one is a patch of one edit.
func one(at int, l api.Line) []api.Edit { return []api.Edit{{At: at, Line: l}} }

// TestFixesExamples: a repair of each kind, and places and kinds without one.
func TestFixesExamples(t *testing.T) {
	own := []api.Line{set(0, 5), set(1, 2), set(0, 1)}
	for _, x := range []struct {
		p        []api.Line
		l        []api.Test
		at, kind int
		want     []api.Line
	}{
		{six(), []api.Test{wants(0, 8)}, 0, 0, []api.Line{set(0, 4)}},
		{six(), []api.Test{wants(0, 8)}, 1, 0, nil},
		{six(), []api.Test{wants(0, 8)}, 0, 1, nil},
		{six(), []api.Test{wants(0, 8)}, 0, 2, []api.Line{set(0, 4)}},
		{six(), []api.Test{wants(0, 8)}, 1, 2, []api.Line{set(0, 8)}},
		{six(), []api.Test{wants(0, 7)}, 0, 2, nil},
		{six(), []api.Test{wants(0, 0), wants(1, 3)}, 0, 0, []api.Line{set(1, 3)}},
		{six(), []api.Test{wants(0, 3)}, 1, 1, []api.Line{set(0, 3)}},
		{six(), []api.Test{wants(0, 0)}, 1, 0, []api.Line{{Op: api.Subtract}}},
		{six(), []api.Test{wants(0, 7), wants(0, 6)}, 1, 2, nil},
		{own, []api.Test{wants(0, 5)}, 2, 0, []api.Line{{}, set(1, 1), set(2, 1), set(3, 1)}},
		{own, []api.Test{wants(0, 5)}, 2, 1, []api.Line{set(0, 5), set(1, 2)}},
		{own, []api.Test{wants(0, 5), wants(1, 2)}, 2, 0, []api.Line{{}, set(2, 1), set(3, 1)}},
		{own, []api.Test{wants(0, 5)}, 0, 2, nil},
	} {
		if list, e := seek.Fixes(x.p, x.l, x.at, x.kind); e != api.OK || !slices.Equal(list, x.want) {
			t.Error("P5.3: Fixes:", x.p, x.l, x.at, x.kind, list, e)
		}
	}
}

// TestSingleExamples: the size counts first, and then the place and the line.
func TestSingleExamples(t *testing.T) {
	for _, x := range []struct {
		what   string
		p      []api.Line
		l      []api.Test
		kind   int
		want   []api.Edit // none: there is no repair
		count  int
		places []int
	}{
		{"the document's example", six(), []api.Test{wants(0, 8)}, 0, one(0, set(0, 4)), 1, []int{0}},
		{"no template is enough", six(), []api.Test{wants(0, 7)}, 0, nil, 0, nil},
		{"the document's line of all", six(), []api.Test{wants(0, 7)}, 2, one(1, set(0, 7)), 1, []int{1}},
		{"the smaller one is at the later place", []api.Line{{}, {}, set(0, 3)}, []api.Test{wants(0, 4)}, 2, one(2, set(0, 4)), 1, []int{2}},
		{"the first place of two", []api.Line{set(0, 3), double()}, []api.Test{wants(0, 0)}, 0, one(0, set(1, 3)), 5, []int{0, 1}},
		{"a register beats a line of the Op None", []api.Line{set(0, 5), set(0, 1)}, []api.Test{wants(0, 5)}, 0, one(1, set(1, 1)), 4, []int{1}},
		{"a line of the program", six(), []api.Test{wants(0, 3)}, 1, one(1, set(0, 3)), 1, []int{1}},
		{"an empty program", nil, []api.Test{wants(0, 3)}, 2, nil, 0, nil},
		{"tests that exclude each other", six(), []api.Test{wants(0, 3), wants(0, 4)}, 2, nil, 0, nil},
	} {
		var want api.Edit
		if len(x.want) > 0 {
			want = x.want[0]
		}
		if edit, some, e := seek.Single(x.p, x.l, x.kind); e != api.OK || some != (len(x.want) > 0) || edit != want {
			t.Errorf("P5.3: %s: Single: %v %v %v", x.what, edit, some, e)
		}
		if n, e := seek.Count(x.p, x.l, x.kind); e != api.OK || n != x.count {
			t.Errorf("P5.3: %s: Count: %d %v", x.what, n, e)
		}
		if places, e := seek.Places(x.p, x.l, x.kind); e != api.OK || !slices.Equal(places, x.places) {
			t.Errorf("P5.3: %s: Places: %v %v", x.what, places, e)
		}
	}
}

// TestRepairExamples: the first kind that has a repair decides, also if another one has a smaller repair.
func TestRepairExamples(t *testing.T) {
	both := []api.Edit{{At: 0, Line: set(0, 8)}, {At: 1, Line: set(1, 8)}}
	minus := func(a, b int) api.Line { return api.Line{Op: api.Subtract, To: 2, A: a, B: b} }
	for _, x := range []struct {
		what   string
		p      []api.Line
		l      []api.Test
		want   []api.Edit
		kind   int
		double []api.Edit
	}{
		{"a template", six(), []api.Test{wants(0, 8)}, one(0, set(0, 4)), 0, nil},
		{"a template, although two do it too", []api.Line{set(0, 3), set(1, 5)}, []api.Test{wants(0, 4)}, one(0, set(0, 4)), 0, []api.Edit{{At: 0, Line: set(0, 4)}, {At: 1, Line: set(1, 4)}}},
		{"a template, although one of all lines is smaller", []api.Line{set(0, 3), minus(0, 1)}, []api.Test{{In: []int{50, 4, 20, 60}, Out: 2, Want: 1}}, one(1, minus(1, 0)), 0, nil},
		{"a line of the program", []api.Line{double(), {}}, []api.Test{{In: []int{1, 0, 0, 0}, Out: 0, Want: 4}}, one(1, double()), 1, nil},
		{"one of all lines", six(), []api.Test{wants(0, 7)}, one(1, set(0, 7)), 2, nil},
		{"one of all lines, although two templates do it too", []api.Line{set(0, 9), set(1, 9), {Op: api.Add, To: 2, A: 0, B: 1}}, []api.Test{wants(2, 16)}, one(0, set(0, 7)), 2, both},
		{"a number two steps away", []api.Line{set(0, 3)}, []api.Test{wants(0, 5)}, one(0, set(0, 5)), 2, nil},
		{"a copy", []api.Line{set(0, 7), {}}, []api.Test{wants(0, 7), wants(1, 7)}, one(1, api.Line{Op: api.Copy, To: 1}), 2, nil},
		{"two edits", []api.Line{set(0, 9), set(1, 9)}, []api.Test{wants(0, 8), wants(1, 8)}, both, 3, both},
		{"none", six(), []api.Test{wants(0, 7), wants(0, 8)}, nil, 0, nil},
		{"an empty program", nil, []api.Test{wants(0, 7)}, nil, 0, nil},
	} {
		list, kind, some, e := seek.Repair(x.p, x.l)
		if e != api.OK || some != (len(x.want) > 0) || kind != x.kind || !slices.Equal(list, x.want) {
			t.Errorf("P5.3: %s: Repair: %v %d %v %v", x.what, list, kind, some, e)
		}
		double, some, e := seek.Double(x.p, x.l)
		if e != api.OK || some != (len(x.double) > 0) || !slices.Equal(double, x.double) {
			t.Errorf("P5.3: %s: Double: %v %v %v", x.what, double, some, e)
		}
	}
}

// toRepair makes a program, and tests for what it is after a change: by one candidate of a kind from 0 to 2, or by two templates.
// Seldom a few of the tests are for anything.
func toRepair(m *sample.Maker) ([]api.Line, []api.Test) {
	p := m.Program()
	if len(p) == 0 {
		return p, m.Tests(p)
	}
	q := slices.Clone(p)
	first, second := m.Below(len(p)), m.Below(len(p))
	switch kind := m.Below(6); kind {
	case 1, 4, 5: // more of these, since for many of them a template does it too
		p[first], q[first] = api.Line{}, q[second]
	case 3:
		q[first], q[second] = pick(m, p, first, 0), pick(m, p, second, 0)
	default:
		q[first] = pick(m, p, first, kind)
	}
	if m.Below(8) == 0 {
		return p, m.Tests(q)
	}
	l := make([]api.Test, api.MaxTests-m.Below(3))
	for i := range l {
		l[i] = m.Test(q)
		end, _ := code.Run(q, l[i].In)
		l[i].Want = end[l[i].Out]
	}
	return p, l
}

// pick returns one of the candidates for a place, or its line if there are none.
func pick(m *sample.Maker, p []api.Line, at, kind int) api.Line {
	list := append(modelCandidates(p, at, kind), p[at])
	return list[m.Below(max(1, len(list)-1))]
}

// holdSingles holds the functions with a kind against the model.
func holdSingles(t *testing.T, p []api.Line, l []api.Test, kind int) bool {
	t.Helper()
	count := 0
	var places []int
	for at := range p {
		var want []api.Line
		for _, m := range modelCandidates(p, at, kind) {
			if modelPassesAll(modelDo(p, api.Edit{At: at, Line: m}), l) {
				want = append(want, m)
			}
		}
		if list, e := seek.Fixes(p, l, at, kind); e != api.OK || !slices.Equal(list, want) {
			t.Fatal("P5.3: Fixes:", p, l, at, kind, list, want, e)
		}
		if count += len(want); len(want) > 0 {
			places = append(places, at)
		}
	}
	if n, e := seek.Count(p, l, kind); e != api.OK || n != count {
		t.Fatal("P5.3: Count:", p, l, kind, n, count, e)
	}
	if set, e := seek.Places(p, l, kind); e != api.OK || !slices.Equal(set, places) {
		t.Fatal("P5.3: Places:", p, l, kind, set, places, e)
	}
	best, any := modelSingle(p, l, kind)
	x, some, e := seek.Single(p, l, kind)
	if e != api.OK || some != any || some && x != best[0] || !some && x != (api.Edit{}) {
		t.Fatal("P5.3: Single:", p, l, kind, x, some, best, e)
	}
	if some && !modelPassesAll(modelDo(p, x), l) {
		t.Fatal("S5: Single:", p, l, kind, x)
	}
	return some
}

// TestSinglesOfMany holds the functions with the kinds 0 and 1 against the model.
func TestSinglesOfMany(t *testing.T) {
	m := sample.New()
	found := [2]map[bool]int{{}, {}}
	for range 2000 {
		p, l := toRepair(m)
		if modelPassesAll(p, l) {
			refuse(t, ofRepairs(), p, arguments{l: l}, api.ErrState, "Count", "Single", "Places", "Double", "Repair")
			continue
		}
		for kind := range 2 {
			found[kind][holdSingles(t, p, l, kind)]++
		}
	}
	for kind := range 2 {
		if found[kind][true] < 100 || found[kind][false] < 100 {
			t.Error("too few programs of a kind:", found)
		}
	}
}

// TestRepairsOfMany holds Repair, Double and the functions with the kind 2 against the model, with the consequences.
func TestRepairsOfMany(t *testing.T) {
	m := sample.New()
	kinds, doubles := map[int]int{}, 0
	for range 700 {
		p, l := toRepair(m)
		if modelPassesAll(p, l) {
			continue
		}
		best, bestKind, any := modelRepair(p, l)
		x, kind, some, e := seek.Repair(p, l)
		if e != api.OK || some != any || kind != bestKind || !slices.Equal(x, best) {
			t.Fatal("P5.3: Repair:", p, l, x, kind, some, best, bestKind, e)
		}
		if is, e := patch.IsGood(p, x, l); e != api.OK || is != some {
			t.Fatal("S5: after Repair all tests pass:", p, l, x, e)
		}
		if _, every, e := seek.Single(p, l, 2); e != api.OK || every != (some && kind < 3) {
			t.Fatal("P5.3: a single repair of the kind 2 is there if there is one of any kind:", p, l, x, kind, e)
		}
		if m.Below(6) == 0 {
			holdSingles(t, p, l, 2)
		}
		best, any = modelDouble(p, l)
		x, is, e := seek.Double(p, l)
		if e != api.OK || is != any || !slices.Equal(x, best) {
			t.Fatal("P5.3: Double:", p, l, x, is, best, e)
		}
		if is {
			doubles++
		}
		if !some {
			kind = -1
		}
		kinds[kind]++
	}
	for kind := -1; kind < 4; kind++ {
		if kinds[kind] < 15 || doubles < 20 {
			t.Error("too few programs of a kind:", kind, kinds, doubles)
		}
	}
}
