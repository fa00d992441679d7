package seek_test

import (
	"slices"
	"testing"

	"tinker/api"
	"tinker/code"
	"tinker/sample"
	"tinker/seek"
)

func six() []api.Line { return sample.Six() }

// set is a line that sets a register.
func set(to, n int) api.Line { return api.Line{Op: api.Set, To: to, A: n} }

// double adds the register 0 to itself.
func double() api.Line { return api.Line{Op: api.Add} }

// TestTemplatesExamples: the templates of a line of each shape, written out.
func TestTemplatesExamples(t *testing.T) {
	for _, x := range []struct {
		l    api.Line
		want []api.Line
	}{
		{api.Line{}, nil},
		{set(0, 3), []api.Line{{}, set(0, 2), set(0, 4), set(1, 3), set(2, 3), set(3, 3)}},
		{set(2, -9), []api.Line{{}, set(0, -9), set(1, -9), set(2, -8), set(3, -9)}},
		{set(3, 9), []api.Line{{}, set(0, 9), set(1, 9), set(2, 9), set(3, 8)}},
		{api.Line{Op: api.Copy, To: 1, A: 2}, []api.Line{
			{}, {Op: 2, To: 0, A: 2}, {Op: 2, To: 1, A: 0}, {Op: 2, To: 1, A: 1}, {Op: 2, To: 1, A: 3}, {Op: 2, To: 2, A: 2}, {Op: 2, To: 3, A: 2}}},
		{double(), []api.Line{
			{}, {Op: 3, B: 1}, {Op: 3, B: 2}, {Op: 3, B: 3}, {Op: 3, A: 1}, {Op: 3, A: 2}, {Op: 3, A: 3}, {Op: 3, To: 1}, {Op: 3, To: 2}, {Op: 3, To: 3}, {Op: 4}, {Op: 5}, {Op: 6}}},
		{api.Line{Op: api.Greatest, To: 3, A: 0, B: 1}, []api.Line{
			{}, {Op: 3, To: 3, A: 0, B: 1}, {Op: 4, To: 3, A: 0, B: 1}, {Op: 5, To: 3, A: 0, B: 1}, {Op: 6, To: 0, A: 0, B: 1}, {Op: 6, To: 1, A: 0, B: 1}, {Op: 6, To: 2, A: 0, B: 1},
			{Op: 6, To: 3, A: 0, B: 0}, {Op: 6, To: 3, A: 0, B: 2}, {Op: 6, To: 3, A: 0, B: 3}, {Op: 6, To: 3, A: 1, B: 0}, {Op: 6, To: 3, A: 1, B: 1}, {Op: 6, To: 3, A: 2, B: 1}, {Op: 6, To: 3, A: 3, B: 1}}},
		{api.Line{Op: api.Skip, To: 1, A: 2, B: 2}, []api.Line{
			{}, {Op: 7, To: 1, A: 0, B: 2}, {Op: 7, To: 1, A: 1, B: 2}, {Op: 7, To: 1, A: 2, B: 0}, {Op: 7, To: 1, A: 2, B: 1}, {Op: 7, To: 1, A: 2, B: 3}, {Op: 7, To: 1, A: 3, B: 2}, {Op: 7, To: 2, A: 2, B: 2}}},
		{api.Line{Op: api.Skip, To: 8, A: 0, B: 3}, []api.Line{
			{}, {Op: 7, To: 7, A: 0, B: 3}, {Op: 7, To: 8, A: 0, B: 0}, {Op: 7, To: 8, A: 0, B: 1}, {Op: 7, To: 8, A: 0, B: 2}, {Op: 7, To: 8, A: 1, B: 3}, {Op: 7, To: 8, A: 2, B: 3}, {Op: 7, To: 8, A: 3, B: 0}, {Op: 7, To: 8, A: 3, B: 3}}},
	} {
		if list, e := seek.Templates(x.l); e != api.OK || !slices.Equal(list, x.want) {
			t.Error("P5.2: Templates:", x.l, list, e)
		}
	}
}

// TestTemplatesOfAll holds Templates and Near against the model, for all lines.
func TestTemplatesOfAll(t *testing.T) {
	for _, l := range allLines() {
		var want []api.Line
		for _, m := range allLines() {
			near, e := seek.Near(l, m)
			if e != api.OK || near != modelNear(l, m) {
				t.Fatal("P5.2: Near:", l, m, near, e)
			}
			if near {
				want = append(want, m)
			}
		}
		if list, e := seek.Templates(l); e != api.OK || !slices.Equal(list, want) {
			t.Fatal("P5.2: Templates:", l, list, e)
		}
	}
}

func TestAll(t *testing.T) {
	if list := seek.All(); !slices.Equal(list, allLines()) || len(list) != 477 {
		t.Error("P5.2: All:", list)
	}
}

func TestCandidatesExamples(t *testing.T) {
	p := []api.Line{double(), set(0, 3), {}, double(), set(0, -3), set(0, 3)}
	templates, _ := seek.Templates(set(0, 3))
	but := func(l api.Line) []api.Line {
		return slices.DeleteFunc(allLines(), func(m api.Line) bool { return m == l })
	}
	for _, x := range []struct {
		at, kind int
		want     []api.Line
	}{
		{1, 0, templates}, {2, 0, nil}, {5, 0, templates},
		{0, 1, []api.Line{{}, set(0, -3), set(0, 3)}}, {1, 1, []api.Line{{}, set(0, -3), double()}}, {2, 1, []api.Line{set(0, -3), set(0, 3), double()}},
		{4, 1, []api.Line{{}, set(0, 3), double()}}, {5, 1, []api.Line{{}, set(0, -3), double()}},
		{0, 2, but(double())}, {2, 2, but(api.Line{})}, {4, 2, but(set(0, -3))},
	} {
		if list, e := seek.Candidates(p, x.at, x.kind); e != api.OK || !slices.Equal(list, x.want) {
			t.Error("P5.2: Candidates:", x.at, x.kind, list, e)
		}
	}
	if list, e := seek.Candidates([]api.Line{double()}, 0, 1); e != api.OK || len(list) != 0 {
		t.Error("P5.2: a line alone has no other one:", list, e)
	}
}

// TestCandidatesOfMany holds Candidates against the model, with the consequence.
func TestCandidatesOfMany(t *testing.T) {
	m := sample.New()
	for range 300 {
		p := m.Program()
		for at := range p {
			every, _ := seek.Candidates(p, at, 2)
			for kind := range 3 {
				list, e := seek.Candidates(p, at, kind)
				if e != api.OK || !slices.Equal(list, modelCandidates(p, at, kind)) {
					t.Fatal("P5.2: Candidates:", p, at, kind, list, e)
				}
				for _, l := range list {
					if code.ValidateLine(l) != api.OK || !slices.Contains(every, l) {
						t.Fatal("P5.2: the candidates of the kinds 0 and 1 are among those of the kind 2:", p, at, kind, l)
					}
				}
			}
		}
	}
}
