package story_test

import (
	"slices"
	"testing"

	"tinker/api"
	"tinker/code"
	"tinker/sample"
	"tinker/story"
)

// wants is a test from the state of zeros.
func wants(out, want int) api.Test {
	return api.Test{In: sample.Zeros(), Out: out, Want: want}
}

// TestExample: the document's program whose repairs set 1, 2, 3 and 4 in the place of 9.
func TestExample(t *testing.T) {
	p, h := []api.Line{set(9)}, history([]int{0}, []int{0}, []int{0}, []int{0})
	for _, x := range []struct {
		want   int
		green  []int
		bisect int
		e      api.Errno
	}{{3, []int{3}, 0, api.ErrState}, {9, []int{0}, 0, api.OK}, {4, []int{4}, 3, api.OK}, {7, nil, 0, api.ErrState}} {
		green, e := story.Green(p, h, wants(0, x.want))
		n, f := story.Bisect(p, h, wants(0, x.want))
		if e != api.OK || f != x.e || !slices.Equal(green, x.green) || n != x.bisect {
			t.Error("P7.5: Green, Bisect:", x.want, green, e, n, f)
		}
	}
	l := []api.Test{wants(0, 2), wants(0, 7), wants(0, 9), wants(0, 2), wants(0, 4), wants(1, 0)}
	if list, e := story.Losses(p, h, l); e != api.OK || !slices.Equal(list, [][2]int{{0, 2}, {2, 0}, {2, 3}}) {
		t.Error("P7.5: Losses:", list, e)
	}
}

// TestNoRepairs: then there is only the program itself.
func TestNoRepairs(t *testing.T) {
	for want, green := range map[int][]int{9: {0}, 8: nil} {
		if set, e := story.Green(nine(), nil, wants(0, want)); e != api.OK || !slices.Equal(set, green) {
			t.Error("P7.5: Green:", want, set, e)
		}
		if n, e := story.Bisect(nine(), nil, wants(0, want)); e != api.ErrState || n != 0 {
			t.Error("P7.5: Bisect:", want, n, e)
		}
		if list, e := story.Losses(nine(), nil, []api.Test{wants(0, want)}); e != api.OK || len(list) != 0 {
			t.Error("P7.5: Losses:", want, list, e)
		}
	}
	if list, e := story.Losses(nine(), three(), nil); e != api.OK || len(list) != 0 {
		t.Error("P7.5: Losses without tests:", list, e)
	}
}

// TestAllColours: histories of all lengths, each number of repairs of which may pass a test or fail it.
func TestAllColours(t *testing.T) {
	for length := range api.MaxRepairs + 1 {
		for choice := range 1 << (length + 1) {
			p := []api.Line{set(choice & 1)}
			h := make([][]api.Edit, length)
			for n := range h {
				h[n] = sets(choice>>(n+1)&1, 0)
			}
			holdTest(t, p, h, wants(0, 1))
			holdLosses(t, p, h, []api.Test{wants(0, 0), wants(0, 1)})
		}
	}
}

// holdTest holds Green and Bisect against the model, with their consequences. It tells whether there is a repair to find.
func holdTest(t *testing.T, p []api.Line, h [][]api.Edit, x api.Test) bool {
	t.Helper()
	passes := modelPasses(p, h, x)
	var want []int
	changes := 0
	for n, is := range passes {
		if is {
			want = append(want, n)
		}
		if n > 0 && is != passes[n-1] {
			changes++
		}
	}
	if green, e := story.Green(p, h, x); e != api.OK || !slices.Equal(green, want) {
		t.Fatal("P7.5: Green:", p, h, x, green, e)
	}
	n, e := story.Bisect(p, h, x)
	if passes[0] == passes[len(h)] {
		if e != api.ErrState || n != 0 {
			t.Fatal("P7.5: Bisect:", p, h, x, n, e)
		}
		return false
	}
	if e != api.OK || n != modelBisect(passes, 0, len(h)) {
		t.Fatal("P7.5: Bisect:", p, h, x, n, e)
	}
	if passes[n] == passes[n+1] {
		t.Fatal("P7.5: just one passes, before or after the repair of Bisect:", p, h, x, n)
	}
	if changes == 1 && (passes[n] != passes[0] || passes[n+1] != passes[len(h)]) {
		t.Fatal("P7.5: the repair of Bisect is the one change:", p, h, x, n)
	}
	return true
}

// holdLosses holds Losses against the model, and returns how many there are.
func holdLosses(t *testing.T, p []api.Line, h [][]api.Edit, l []api.Test) int {
	t.Helper()
	var want [][2]int
	for n := range h {
		for i, x := range l {
			if passes := modelPasses(p, h, x); passes[n] && !passes[n+1] {
				want = append(want, [2]int{n, i})
			}
		}
	}
	if list, e := story.Losses(p, h, l); e != api.OK || !slices.Equal(list, want) {
		t.Fatal("P7.5: Losses:", p, h, l, list, e)
	}
	return len(want)
}

// testsWithin returns tests, many of which want what a history has made at some time.
func testsWithin(m *sample.Maker, p []api.Line, h [][]api.Edit) []api.Test {
	programs := modelPrograms(p, h)
	l := m.Tests(p)
	for i, x := range l {
		if m.Below(4) > 0 {
			end, _ := code.Run(programs[m.Below(len(programs))], x.In)
			l[i].Want = end[x.Out]
		}
	}
	return l
}

// TestTestsOfMany holds P7.5 against the model.
func TestTestsOfMany(t *testing.T) {
	m := sample.New()
	found, losses := 0, 0
	for range 2000 {
		p := m.Program()
		h := m.History(p)
		l := testsWithin(m, p, h)
		for _, x := range l {
			if holdTest(t, p, h, x) {
				found++
			}
		}
		losses += holdLosses(t, p, h, l)
	}
	if found < 500 || losses < 500 {
		t.Error("too few of a kind:", found, losses)
	}
}
