package seek_test

import (
	"slices"
	"testing"

	"tinker/api"
	"tinker/sample"
	"tinker/seek"
)

func TestMutantsExamples(t *testing.T) {
	want := []api.Edit{{}, {Line: set(0, 2)}, {Line: set(0, 4)}, {Line: set(1, 3)}, {Line: set(2, 3)}, {Line: set(3, 3)},
		{At: 2}, {At: 2, Line: set(0, 9)}, {At: 2, Line: set(1, 8)}, {At: 2, Line: set(2, 9)}, {At: 2, Line: set(3, 9)}}
	if list, e := seek.Mutants([]api.Line{set(0, 3), {}, set(1, 9)}); e != api.OK || !slices.Equal(list, want) {
		t.Error("P5.4: Mutants:", list, e)
	}
	for _, p := range [][]api.Line{nil, {{}}, make([]api.Line, 8)} {
		if list, e := seek.Mutants(p); e != api.OK || len(list) != 0 {
			t.Error("P5.4: Mutants:", p, list, e)
		}
		for _, l := range someTests() {
			alive, e := seek.Alive(p, l)
			enough, f := seek.Enough(p, l)
			if e != api.OK || f != api.OK || len(alive) != 0 || len(enough) != 0 {
				t.Error("P5.4: no mutants:", p, l, alive, e, enough, f)
			}
		}
	}
}

// TestKillsExamples: a test that fails before kills nothing; all tests that kill are in the set.
func TestKillsExamples(t *testing.T) {
	l := []api.Test{wants(0, 6), wants(0, 8), wants(1, 0), wants(0, 6), {In: []int{3, 0, 0, 0}, Out: 0, Want: 6}}
	for _, x := range []struct {
		m    api.Edit
		want []int
	}{
		{api.Edit{}, []int{0, 3}}, {api.Edit{Line: set(0, 4)}, []int{0, 3, 4}}, {api.Edit{Line: set(1, 3)}, []int{0, 2, 3}}, {api.Edit{Line: set(2, 3)}, []int{0, 3}},
		{api.Edit{At: 1}, []int{0, 3, 4}}, {api.Edit{At: 1, Line: api.Line{Op: api.Add, To: 1}}, []int{0, 2, 3, 4}},
	} {
		if list, e := seek.Kills(six(), l, x.m); e != api.OK || !slices.Equal(list, x.want) {
			t.Error("P5.4: Kills:", x.m, list, e)
		}
	}
}

func TestScoreExamples(t *testing.T) {
	p := []api.Line{set(0, 3)}
	of1 := api.Test{In: []int{3, 0, 0, 0}, Out: 0, Want: 3}
	for _, x := range []struct {
		l      []api.Test
		alive  []api.Edit
		score  api.Rat
		enough []int
	}{
		{nil, []api.Edit{{}, {Line: set(0, 2)}, {Line: set(0, 4)}, {Line: set(1, 3)}, {Line: set(2, 3)}, {Line: set(3, 3)}}, api.Rat{Num: 0, Den: 1}, nil},
		{[]api.Test{wants(0, 4), wants(1, 1)}, []api.Edit{{}, {Line: set(0, 2)}, {Line: set(0, 4)}, {Line: set(1, 3)}, {Line: set(2, 3)}, {Line: set(3, 3)}}, api.Rat{Num: 0, Den: 1}, nil},
		{[]api.Test{wants(1, 0)}, []api.Edit{{}, {Line: set(0, 2)}, {Line: set(0, 4)}, {Line: set(2, 3)}, {Line: set(3, 3)}}, api.Rat{Num: 1, Den: 6}, []int{0}},
		{[]api.Test{wants(0, 4), of1}, []api.Edit{{}, {Line: set(1, 3)}, {Line: set(2, 3)}, {Line: set(3, 3)}}, api.Rat{Num: 1, Den: 3}, []int{1}},
		{[]api.Test{of1, wants(1, 0), of1}, []api.Edit{{}, {Line: set(2, 3)}, {Line: set(3, 3)}}, api.Rat{Num: 1, Den: 2}, []int{0, 1}},
		{[]api.Test{of1, wants(1, 0), wants(2, 0), wants(3, 0)}, []api.Edit{{}}, api.Rat{Num: 5, Den: 6}, []int{0, 1, 2, 3}},
		{[]api.Test{of1, wants(1, 0), wants(2, 0), wants(0, 3), wants(3, 0), wants(0, 3)}, nil, api.Rat{Num: 1, Den: 1}, []int{3}},
	} {
		if list, e := seek.Alive(p, x.l); e != api.OK || !slices.Equal(list, x.alive) {
			t.Error("P5.4: Alive:", x.l, list, e)
		}
		if f, e := seek.Score(p, x.l); e != api.OK || f != x.score {
			t.Error("P5.4: Score:", x.l, f, e)
		}
		if set, e := seek.Enough(p, x.l); e != api.OK || !slices.Equal(set, x.enough) {
			t.Error("P5.4: Enough:", x.l, set, e)
		}
	}
}

// TestMutantsOfMany holds P5.4 against the model, with its consequences.
func TestMutantsOfMany(t *testing.T) {
	m := sample.New()
	sizes := map[int]int{}
	for range 1000 {
		p := m.Program()
		l := m.Tests(p)
		edits := modelEdits(p, 0)
		if list, e := seek.Mutants(p); e != api.OK || !slices.Equal(list, edits) {
			t.Fatal("P5.4: Mutants:", p, list, e)
		}
		var alive []api.Edit
		for _, x := range edits {
			want := modelKills(p, l, x)
			if set, e := seek.Kills(p, l, x); e != api.OK || !slices.Equal(set, want) {
				t.Fatal("P5.4: Kills:", p, l, x, set, want, e)
			}
			if len(want) == 0 {
				alive = append(alive, x)
			}
		}
		if list, e := seek.Alive(p, l); e != api.OK || !slices.Equal(list, alive) {
			t.Fatal("P5.4: Alive:", p, l, list, alive, e)
		}
		if len(edits) > 0 {
			holdScore(t, p, l, len(edits)-len(alive), len(edits))
		}
		sizes[holdEnough(t, p, l, alive)]++
	}
	for size := range 5 {
		if sizes[size] < 20 {
			t.Error("too few programs of a kind:", size, sizes)
		}
	}
}

// holdScore holds Score against the number of killed mutants, and against what it is with a test less.
func holdScore(t *testing.T, p []api.Line, l []api.Test, killed, all int) {
	t.Helper()
	f, e := seek.Score(p, l)
	if e != api.OK || f.Den <= 0 || f.Num*all != f.Den*killed {
		t.Fatal("P5.4: Score:", p, l, f, killed, all, e)
	}
	for d := 2; d <= f.Den; d++ {
		if f.Num%d == 0 && f.Den%d == 0 {
			t.Fatal("P5.4: Score is not in lowest terms:", p, l, f)
		}
	}
	for i := range l {
		less, e := seek.Score(p, slices.Concat(l[:i], l[i+1:]))
		if e != api.OK || less.Num*f.Den > f.Num*less.Den {
			t.Fatal("P5.4: a test more never makes Score smaller:", p, l, i, less, f, e)
		}
	}
}

// holdEnough holds Enough against the model, and returns how many tests are enough.
func holdEnough(t *testing.T, p []api.Line, l []api.Test, alive []api.Edit) int {
	t.Helper()
	set, e := seek.Enough(p, l)
	if e != api.OK || !slices.Equal(set, modelEnough(p, l)) {
		t.Fatal("P5.4: Enough:", p, l, set, modelEnough(p, l), e)
	}
	var few []api.Test
	for _, i := range set {
		few = append(few, l[i])
	}
	if list, e := seek.Alive(p, few); e != api.OK || !slices.Equal(list, alive) {
		t.Fatal("P5.4: Enough has the same Alive:", p, l, set, list, alive, e)
	}
	return len(set)
}
