package blame_test

import (
	"math"
	"slices"
	"testing"

	"tinker/api"
	"tinker/blame"
	"tinker/sample"
)

// same reports whether two lists of sets are equal, in the same order.
func same(f, g [][]int) bool {
	return slices.EqualFunc(f, g, slices.Equal)
}

// wrongNumbers are no numbers of a set.
func wrongNumbers() []int {
	return []int{math.MinInt, -64, -1, 8, 64, 65, math.MaxInt}
}

// wrongSets are no sets of numbers from 0 to 7.
func wrongSets() [][]int {
	list := [][]int{{1, 0}, {3, 3}, {0, 1, 1}, {0, 2, 1}, {7, 6, 5}, make([]int, 1000), {-1, 8}}
	for _, n := range wrongNumbers() {
		list = append(list, []int{n})
		if n < 0 {
			list = append(list, []int{n, 0, 7})
		} else {
			list = append(list, []int{0, 7, n})
		}
	}
	return list
}

// wrongFamilies are no families, with the errors for them.
func wrongFamilies() []struct {
	f    [][]int
	want api.Errno
} {
	type wrong = struct {
		f    [][]int
		want api.Errno
	}
	large := make([][]int, 71)
	large[70] = []int{8}
	list := []wrong{{make([][]int, 71), api.ErrLarge}, {make([][]int, 5000), api.ErrLarge}, {large, api.ErrLarge}}
	for _, set := range wrongSets() {
		last := make([][]int, 70)
		last[69] = set
		list = append(list, wrong{[][]int{set}, api.ErrArg}, wrong{[][]int{{0, 1}, nil, set, {7}}, api.ErrArg}, wrong{last, api.ErrArg})
	}
	return list
}

func TestValidate(t *testing.T) {
	for _, f := range [][][]int{
		nil, {}, {nil}, {{}}, {{0}, {7}}, {{0, 1, 2, 3, 4, 5, 6, 7}}, {{1}, nil, {1}, {}, {0, 7}}, make([][]int, 70),
	} {
		if e := blame.Validate(f); e != api.OK {
			t.Error("P3.1:", f, e)
		}
	}
	for _, x := range wrongFamilies() {
		if e := blame.Validate(x.f); e != x.want {
			t.Error("P3.1:", x.f, e)
		}
	}
}

// ofFamilies are the functions that take a family alone, each with all that it returns as a list that is empty for zero values.
func ofFamilies() map[string]func(f [][]int) ([]int, api.Errno) {
	count := func(f [][]int, e api.Errno) ([]int, api.Errno) { return make([]int, len(f)), e }
	return map[string]func(f [][]int) ([]int, api.Errno){
		"Apart": blame.Apart, "Common": blame.Common, "Together": blame.Together,
		"Blocker": func(f [][]int) ([]int, api.Errno) { return count(blame.Blocker(f)) },
		"Least":   func(f [][]int) ([]int, api.Errno) { return count(blame.Least(f)) },
		"Smallest": func(f [][]int) ([]int, api.Errno) {
			n, some, e := blame.Smallest(f)
			if n != 0 || some {
				return []int{n}, e
			}
			return nil, e
		},
		"First": func(f [][]int) ([]int, api.Errno) {
			set, some, e := blame.First(f)
			if some {
				set = append(set, 0)
			}
			return set, e
		},
	}
}

// TestErrorsOfFamilies: the errors of a family come first; with each all results are zero.
func TestErrorsOfFamilies(t *testing.T) {
	for _, x := range wrongFamilies() {
		for name, call := range ofFamilies() {
			if list, e := call(x.f); e != x.want || len(list) != 0 {
				t.Errorf("P3.1, R3: %s: %v: %v %d instead of %d", name, x.f, list, e, x.want)
			}
		}
		for _, set := range [][]int{nil, {1}, {8}, {2, 1}} {
			if is, e := blame.Hits(x.f, set); e != x.want || is {
				t.Error("P3.1: Hits:", x.f, set, is, e)
			}
		}
		for _, number := range []int{0, 8, -1} {
			if f, e := blame.Without(x.f, number); e != x.want || len(f) != 0 {
				t.Error("P3.1: Without:", x.f, number, f, e)
			}
		}
		if e := blame.CheckBlocker(nil, x.f); e != x.want {
			t.Error("P3.1: CheckBlocker:", x.f, e)
		}
		for _, g := range [][][]int{nil, {nil}, make([][]int, 71), {{8}}} {
			if e := blame.CheckBlocker(x.f, g); e != x.want {
				t.Error("R2: CheckBlocker: all errors of the first family come first:", x.f, g, e)
			}
		}
	}
}

// TestErrorsOfSets: Hits and Without refuse what is no set and no number of one, whatever the family is.
func TestErrorsOfSets(t *testing.T) {
	for _, f := range [][][]int{nil, {nil}, {{0, 1}, {1, 2}}} {
		for _, set := range wrongSets() {
			if is, e := blame.Hits(f, set); e != api.ErrArg || is {
				t.Error("P3.1: Hits:", f, set, is, e)
			}
		}
		for _, number := range wrongNumbers() {
			if g, e := blame.Without(f, number); e != api.ErrArg || len(g) != 0 {
				t.Error("P3.1: Without:", f, number, g, e)
			}
		}
	}
}

// TestMemory: a result shares no memory with an argument or with another result, and no argument is changed.
func TestMemory(t *testing.T) {
	f, p, l := [][]int{{0, 1}, {1, 2}, {1, 2}}, six(), []api.Test{wants(0, 8), wants(0, 8)}
	for range 2 {
		blocker, _ := blame.Blocker(f)
		least, _ := blame.Least(f)
		without, _ := blame.Without(f, 0)
		family, _ := blame.Slices(p, l)
		diagnoses, _ := blame.Diagnoses(p, l)
		blamed, _ := blame.Blamed(p, l, 1)
		lists := slices.Concat(blocker, least, without, family, diagnoses, blamed)
		first, _, _ := blame.First(f)
		apart, _ := blame.Apart(f)
		common, _ := blame.Common(f)
		together, _ := blame.Together(f)
		values, _, _ := blame.CanPass(p, l[0], []int{1})
		for _, list := range append(lists, first, apart, common, together, values) {
			if !sample.Spoil(list) {
				t.Error("R5: a result is shared or empty:", list)
			}
		}
	}
	if !same(f, [][]int{{0, 1}, {1, 2}, {1, 2}}) || !slices.Equal(p, six()) || !slices.Equal(l[0].In, []int{0, 0, 0, 0}) {
		t.Error("R5: an argument is changed:", f, p, l)
	}
}
