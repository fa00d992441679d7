package check_test

import (
	"slices"
	"testing"

	"tinker/api"
	"tinker/check"
	"tinker/code"
	"tinker/sample"
)

// ends returns what the register out is at the end.
func ends(t *testing.T, p []api.Line, in []int, out int) int {
	t.Helper()
	end, e := code.Run(p, in)
	if e != api.OK {
		t.Fatal(p, in, e)
	}
	return end[out]
}

func TestPassesExamples(t *testing.T) {
	for _, x := range []struct {
		what string
		p    []api.Line
		t    api.Test
		want bool
	}{
		{"what the document's example wants", sample.Six(), wants(0, 6), true},
		{"one more", sample.Six(), wants(0, 7), false},
		{"one less", sample.Six(), wants(0, 5), false},
		{"another register", sample.Six(), wants(1, 6), false},
		{"a register that the program leaves", sample.Six(), api.Test{In: []int{1, 2, 3, 4}, Out: 3, Want: 4}, true},
		{"no lines", nil, wants(0, 0), true},
		{"no lines and another number", nil, wants(0, 1), false},
		{"a sum that is cut", []api.Line{{Op: api.Add}}, api.Test{In: []int{500, 0, 0, 0}, Out: 0, Want: 999}, true},
		{"a line that is skipped", skips(), api.Test{In: []int{0, 1, 5, 0}, Out: 2, Want: 5}, true},
	} {
		if is, e := check.Passes(x.p, x.t); e != api.OK || is != x.want {
			t.Errorf("P2.2: %s: %v %d", x.what, is, e)
		}
	}
}

func TestListsExample(t *testing.T) {
	l := []api.Test{{In: []int{0, 1, 0, 0}, Out: 2, Want: 0}, {In: []int{1, 1, 0, 0}, Out: 2, Want: 8}, wants(2, 9)}
	passing, e := check.Passing(skips(), l)
	failing, f := check.Failing(skips(), l)
	if e != api.OK || f != api.OK || !slices.Equal(passing, []int{0, 2}) || !slices.Equal(failing, []int{1}) {
		t.Error("P2.2:", passing, failing)
	}
	table, e := check.Table(skips(), l)
	if e != api.OK || !slices.EqualFunc(table, [][]int{{1, 0, 1}, {1, 1, 1}, {1, 1, 1}}, slices.Equal) {
		t.Error("P2.2:", table, e)
	}
	covered, e := check.Covered(skips(), l[:1])
	if e != api.OK || !slices.Equal(covered, []int{0, 2}) {
		t.Error("P2.2:", covered, e)
	}
	covered, e = check.Covered(skips(), l)
	if e != api.OK || !slices.Equal(covered, []int{0, 1, 2}) {
		t.Error("P2.2:", covered, e)
	}
	told, e := check.Tells(skips(), []api.Line{{Op: api.Set, To: 2, A: 9}}, l)
	if e != api.OK || !slices.Equal(told, []int{0}) {
		t.Error("P2.2: what tests want does not matter to Tells:", told, e)
	}
}

// TestNothing: no tests, or no lines.
func TestNothing(t *testing.T) {
	for _, l := range [][]api.Test{nil, {}} {
		for name, f := range map[string]func([]api.Line, []api.Test) ([]int, api.Errno){
			"Passing": check.Passing, "Failing": check.Failing, "Covered": check.Covered, "Suspects": check.Suspects,
		} {
			if list, e := f(sample.Six(), l); e != api.OK || len(list) != 0 {
				t.Error("P2.2:", name, "without tests:", list, e)
			}
		}
		if table, e := check.Table(sample.Six(), l); e != api.OK || len(table) != 0 {
			t.Error("P2.2: Table without tests:", table, e)
		}
		if told, e := check.Tells(sample.Six(), nil, l); e != api.OK || len(told) != 0 {
			t.Error("P2.2: Tells without tests:", told, e)
		}
	}
	l := []api.Test{wants(0, 0), wants(0, 1)}
	for _, p := range [][]api.Line{nil, {}} {
		if table, e := check.Table(p, l); e != api.OK || len(table) != 2 || len(table[0])+len(table[1]) != 0 {
			t.Error("P2.2: Table without lines:", table, e)
		}
		for name, f := range map[string]func([]api.Line, []api.Test) ([]int, api.Errno){
			"Covered": check.Covered, "Suspects": check.Suspects, "Rank": check.Rank,
		} {
			if list, e := f(p, l); e != api.OK || len(list) != 0 {
				t.Error("P2.2, P2.3:", name, "without lines:", list, e)
			}
		}
		if list, e := check.Scores(p, l); e != api.OK || len(list) != 0 {
			t.Error("P2.3: Scores without lines:", list, e)
		}
	}
}

// TestListsOfRuns holds the functions for lists of tests against the runs of package code.
func TestListsOfRuns(t *testing.T) {
	m := sample.New()
	for range 3000 {
		p, q := m.Program(), m.Program()
		l := m.Tests(p)
		var passing, failing, told []int
		var all [api.MaxLines]bool
		table, e := check.Table(p, l)
		if e != api.OK || len(table) != len(l) {
			t.Fatal("P2.2:", p, l, table, e)
		}
		for i, x := range l {
			end := ends(t, p, x.In, x.Out)
			is, e := check.Passes(p, x)
			if e != api.OK || is != (end == x.Want) {
				t.Fatal("P2.2: Passes:", p, x, is, e)
			}
			if is {
				passing = append(passing, i)
			} else {
				failing = append(failing, i)
			}
			if end != ends(t, q, x.In, x.Out) {
				told = append(told, i)
			}
			done, _ := code.Done(p, x.In)
			want := make([]int, len(p))
			for _, line := range done {
				want[line], all[line] = 1, true
			}
			if !slices.Equal(table[i], want) {
				t.Fatal("P2.2: Table:", p, x, table[i])
			}
		}
		expectList(t, "P2.2: Passing", check.Passing, p, l, passing)
		expectList(t, "P2.2: Failing", check.Failing, p, l, failing)
		var covered []int
		for line, is := range all {
			if is {
				covered = append(covered, line)
			}
		}
		expectList(t, "P2.2: Covered", check.Covered, p, l, covered)
		tells := func(p []api.Line, l []api.Test) ([]int, api.Errno) { return check.Tells(p, q, l) }
		expectList(t, "P2.2: Tells", tells, p, l, told)
	}
}

// expectList reports a result other than the wanted one.
func expectList(t *testing.T, what string, f func([]api.Line, []api.Test) ([]int, api.Errno), p []api.Line, l []api.Test, want []int) {
	t.Helper()
	if list, e := f(p, l); e != api.OK || !slices.Equal(list, want) {
		t.Fatalf("%s: %v with %v: %v %d instead of %v", what, p, l, list, e, want)
	}
}

// TestMake: also the consequence of P2.4, that a program passes the test that Make makes of it.
func TestMake(t *testing.T) {
	in := []int{7, -8, 9, 10}
	for out, want := range []int{6, -8, 9, 10} {
		x, e := check.Make(sample.Six(), in, out)
		if e != api.OK || !slices.Equal(x.In, in) || x.Out != out || x.Want != want {
			t.Error("P2.2:", x, e)
		}
	}
	m := sample.New()
	for range 3000 {
		p, in, out := m.Program(), m.State(), m.Below(4)
		x, e := check.Make(p, in, out)
		if e != api.OK || !slices.Equal(x.In, in) || x.Out != out || x.Want != ends(t, p, in, out) {
			t.Fatal("P2.2:", p, in, x, e)
		}
		if is, e := check.Passes(p, x); e != api.OK || !is {
			t.Fatal("S2:", p, x, is, e)
		}
	}
}
