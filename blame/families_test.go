package blame_test

import (
	"slices"
	"testing"

	"tinker/api"
	"tinker/blame"
	"tinker/sample"
)

// ofSize returns all sets with so many numbers, in ascending order.
func ofSize(size int) [][]int {
	return slices.DeleteFunc(sample.Sets(8), func(set []int) bool { return len(set) != size })
}

func meets(a, b []int) bool {
	return slices.ContainsFunc(a, func(n int) bool { return slices.Contains(b, n) })
}

func isPart(a, b []int) bool {
	return !slices.ContainsFunc(a, func(n int) bool { return !slices.Contains(b, n) })
}

func hits(f [][]int, set []int) bool {
	return !slices.ContainsFunc(f, func(other []int) bool { return !meets(set, other) })
}

// makeFamily makes a family: often a few small sets, sometimes many large ones; some are empty, and some come twice.
func makeFamily(m *sample.Maker) [][]int {
	count, rare := m.Below(9), 2+m.Below(4)
	if m.Below(6) == 0 {
		count, rare = m.Below(71), 2
	}
	f := make([][]int, count)
	for i := range f {
		for n := range 8 {
			if m.Below(rare) == 0 {
				f[i] = append(f[i], n)
			}
		}
		if len(f[i]) == 0 && m.Below(3) > 0 {
			f[i] = []int{m.Below(8)}
		}
		if i > 0 && m.Below(8) == 0 {
			f[i] = slices.Clone(f[m.Below(i)])
		}
	}
	return f
}

// TestFamiliesExamples: the size is -1 where no set hits the family.
func TestFamiliesExamples(t *testing.T) {
	every := []int{0, 1, 2, 3, 4, 5, 6, 7}
	var singles [][]int
	for n := range 8 {
		singles = append(singles, []int{n})
	}
	for _, x := range []struct {
		what                    string
		f, blocker, least       [][]int
		size                    int
		first                   []int
		apart, common, together []int
	}{
		{"the document's example", [][]int{{0, 1}, {1, 2}}, [][]int{{0, 2}, {1}}, [][]int{{0, 1}, {1, 2}}, 1, []int{1}, []int{0}, []int{1}, []int{0, 1, 2}},
		{"the empty family", nil, [][]int{{}}, nil, 0, nil, nil, every, nil},
		{"the empty set alone", [][]int{{}}, nil, [][]int{{}}, -1, nil, nil, nil, nil},
		{"with the empty set", [][]int{{0, 1}, {}, {2}, {}}, nil, [][]int{{}}, -1, nil, []int{0, 2}, nil, []int{0, 1, 2}},
		{"a set that comes twice", [][]int{{3, 4}, {3, 4}}, [][]int{{3}, {4}}, [][]int{{3, 4}}, 1, []int{3}, []int{0}, []int{3, 4}, []int{3, 4}},
		{"all numbers", [][]int{every}, singles, [][]int{every}, 1, []int{0}, []int{0}, every, every},
		{"all numbers alone", singles, [][]int{every}, singles, 8, every, every, nil, every},
		{"in descending order", [][]int{{7}, {2, 3}, {2}, {0, 1}}, [][]int{{0, 2, 7}, {1, 2, 7}}, [][]int{{0, 1}, {2}, {7}}, 3, []int{0, 2, 7}, []int{0, 1, 3}, nil, []int{0, 1, 2, 3, 7}},
		{"a part that comes later", [][]int{{0, 1, 2}, {0, 1}, {0, 2}}, [][]int{{0}, {1, 2}}, [][]int{{0, 1}, {0, 2}}, 1, []int{0}, []int{0}, []int{0}, []int{0, 1, 2}},
		{"the smallest set is not the first one", [][]int{{0, 6}, {1, 6}, {2, 6}}, [][]int{{0, 1, 2}, {6}}, [][]int{{0, 6}, {1, 6}, {2, 6}}, 1, []int{6}, []int{0}, []int{6}, []int{0, 1, 2, 6}},
		{"two that are apart beat the first one", [][]int{{0, 1}, {1}, {0}, {0}}, [][]int{{0, 1}}, [][]int{{0}, {1}}, 2, []int{0, 1}, []int{1, 2}, nil, []int{0, 1}},
		{"more numbers than sets that are apart", [][]int{{0, 1}, {1, 2}, {0, 2}}, [][]int{{0, 1}, {0, 2}, {1, 2}}, [][]int{{0, 1}, {0, 2}, {1, 2}}, 2, []int{0, 1}, []int{0}, nil, []int{0, 1, 2}},
	} {
		e := expectSets(x.f, x.blocker, x.least)
		if e != "" {
			t.Errorf("P3.2: %s: %s", x.what, e)
		}
		n, some, e1 := blame.Smallest(x.f)
		first, is, e2 := blame.First(x.f)
		if e1 != api.OK || e2 != api.OK || some != (x.size >= 0) || is != some || n != max(0, x.size) || !slices.Equal(first, x.first) {
			t.Errorf("P3.2: %s: %d %v %v %v", x.what, n, some, first, is)
		}
		apart, e1 := blame.Apart(x.f)
		common, e2 := blame.Common(x.f)
		together, e3 := blame.Together(x.f)
		if e1 != api.OK || e2 != api.OK || e3 != api.OK || !slices.Equal(apart, x.apart) || !slices.Equal(common, x.common) || !slices.Equal(together, x.together) {
			t.Errorf("P3.3: %s: %v %v %v", x.what, apart, common, together)
		}
	}
}

// expectSets says what is wrong with the blocker and with what is least of a family; it holds both consequences, too.
func expectSets(f, blocker, least [][]int) string {
	b, e1 := blame.Blocker(f)
	l, e2 := blame.Least(f)
	if e1 != api.OK || e2 != api.OK || !same(b, blocker) || !same(l, least) {
		return "Blocker or Least"
	}
	if blame.CheckBlocker(f, b) != api.OK {
		return "CheckBlocker of the blocker"
	}
	again, e1 := blame.Blocker(b)
	other, e2 := blame.Blocker(l)
	if e1 != api.OK || e2 != api.OK || !same(again, l) || !same(other, b) {
		return "S3: the blocker of the blocker, or of what is least"
	}
	return ""
}

func TestHitsExamples(t *testing.T) {
	f := [][]int{{0, 1}, {1, 2}}
	for _, x := range []struct {
		f    [][]int
		set  []int
		want bool
	}{
		{f, []int{1}, true}, {f, []int{0, 2}, true}, {f, []int{0}, false}, {f, []int{2}, false}, {f, []int{0, 3, 7}, false},
		{f, nil, false}, {f, []int{}, false}, {f, []int{0, 1, 2, 3, 4, 5, 6, 7}, true}, {[][]int{{7}}, []int{7}, true},
		{nil, nil, true}, {nil, []int{}, true}, {nil, []int{5}, true},
		{[][]int{nil}, nil, false}, {[][]int{{0}, {}}, []int{0}, false}, {[][]int{{}}, []int{0, 1, 2, 3, 4, 5, 6, 7}, false},
	} {
		if is, e := blame.Hits(x.f, x.set); e != api.OK || is != x.want {
			t.Error("P3.2:", x.f, x.set, is, e)
		}
	}
}

// TestCheckBlocker: the blocker is refused with any change, in another order, or with a set that comes twice.
func TestCheckBlocker(t *testing.T) {
	f := [][]int{{0, 1}, {1, 2}}
	for _, x := range []struct {
		f, g [][]int
		want api.Errno
	}{
		{f, [][]int{{0, 2}, {1}}, api.OK},
		{f, [][]int{{1}, {0, 2}}, api.ErrProof},
		{f, [][]int{{0, 2}}, api.ErrProof},
		{f, [][]int{{0, 2}, {1}, {1}}, api.ErrProof},
		{f, [][]int{{0, 2}, {1}, {1, 2}}, api.ErrProof},
		{f, [][]int{{0, 2}, {1, 2}}, api.ErrProof},
		{f, nil, api.ErrProof},
		{f, f, api.ErrProof},
		{nil, [][]int{nil}, api.OK},
		{nil, nil, api.ErrProof},
		{[][]int{nil}, nil, api.OK},
		{[][]int{nil, {1}}, [][]int{}, api.OK},
		{[][]int{nil}, [][]int{nil}, api.ErrProof},
	} {
		if e := blame.CheckBlocker(x.f, x.g); e != x.want {
			t.Error("P3.2:", x.f, x.g, e)
		}
	}
}

func TestWithoutExamples(t *testing.T) {
	f := [][]int{{1, 2}, {0, 1}, {}, {1}, {0, 1}, {5, 7}}
	for number, want := range map[int][][]int{
		1: {{2}, {0}, {}, {}, {0}, {5, 7}},
		0: {{1, 2}, {1}, {}, {1}, {1}, {5, 7}},
		7: {{1, 2}, {0, 1}, {}, {1}, {0, 1}, {5}},
		3: f,
	} {
		if g, e := blame.Without(f, number); e != api.OK || !same(g, want) {
			t.Error("P3.3:", number, g, e)
		}
	}
	if g, e := blame.Without(nil, 4); e != api.OK || len(g) != 0 {
		t.Error("P3.3:", g, e)
	}
}

// TestLargeFamilies: the greatest blocker, and families in which very many choices are apart.
func TestLargeFamilies(t *testing.T) {
	four, five := ofSize(4), ofSize(5)
	if len(four) != 70 {
		t.Fatal(len(four))
	}
	if e := expectSets(four, five, four); e != "" {
		t.Error("P3.2: all sets of 4 numbers:", e)
	}
	if e := expectSets(five, four, five); e != "" {
		t.Error("P3.2: all sets of 5 numbers:", e)
	}
	if apart, e := blame.Apart(four); e != api.OK || !slices.Equal(apart, []int{0, 69}) {
		t.Error("P3.3:", apart, e)
	}
	var singles, pairs [][]int
	for i := range 70 {
		singles = append(singles, []int{7 - i%8})
		pairs = append(pairs, []int{i / 24 * 2, i/24*2 + 1})
	}
	if apart, e := blame.Apart(singles); e != api.OK || !slices.Equal(apart, []int{0, 1, 2, 3, 4, 5, 6, 7}) {
		t.Error("P3.3:", apart, e)
	}
	if apart, e := blame.Apart(pairs); e != api.OK || !slices.Equal(apart, []int{0, 24, 48}) {
		t.Error("P3.3:", apart, e)
	}
}

// TestFamiliesOfDefinitions holds the functions of families against what the chapter says of them.
func TestFamiliesOfDefinitions(t *testing.T) {
	m := sample.New()
	every := sample.Sets(8)
	none, some := 0, 0
	for range 1500 {
		f := makeFamily(m)
		var hitting, blocker, least [][]int
		for _, set := range every {
			is, e := blame.Hits(f, set)
			if e != api.OK || is != hits(f, set) {
				t.Fatal("P3.2: Hits:", f, set, is, e)
			}
			if is {
				hitting = append(hitting, set)
			}
			different := func(other []int) bool { return isPart(other, set) && !slices.Equal(other, set) }
			listed := slices.ContainsFunc(f, func(other []int) bool { return slices.Equal(other, set) })
			if listed && !slices.ContainsFunc(f, different) {
				least = append(least, set)
			}
		}
		for _, set := range hitting {
			if !slices.ContainsFunc(hitting, func(other []int) bool { return isPart(other, set) && len(other) < len(set) }) {
				blocker = append(blocker, set)
			}
		}
		if e := expectSets(f, blocker, least); e != "" {
			t.Fatal("P3.2:", f, e)
		}
		if len(hitting) == 0 {
			none++
		} else {
			some++
		}
		expectSmallest(t, f, hitting)
		expectNumbers(t, f)
	}
	if none < 100 || some < 500 {
		t.Error("too few kinds of families:", none, some)
	}
}

// expectSmallest holds Smallest, First and the first consequence of P3.3 against all sets that hit a family.
func expectSmallest(t *testing.T, f, hitting [][]int) {
	t.Helper()
	var want []int
	for i, set := range hitting {
		if i == 0 || len(set) < len(want) {
			want = set
		}
	}
	n, some, e1 := blame.Smallest(f)
	first, is, e2 := blame.First(f)
	if e1 != api.OK || e2 != api.OK || some != (len(hitting) > 0) || is != some || n != len(want) || !slices.Equal(first, want) {
		t.Fatal("P3.2:", f, n, some, first, is)
	}
	apart, e := blame.Apart(f)
	if e != api.OK || some && n < len(apart) {
		t.Fatal("P3.3: the consequence:", f, apart, n, e)
	}
	if count := len(f); count <= 8 && !slices.Equal(apart, bestApart(f)) {
		t.Fatal("P3.3: Apart:", f, apart, bestApart(f))
	}
}

// bestApart returns the first one of the greatest sets of places that are apart, of a family of at most 8 sets.
func bestApart(f [][]int) []int {
	var best []int
	for _, places := range sample.Sets(8) {
		if len(places) > len(best) && places[len(places)-1] < len(f) && areApart(f, places) {
			best = places
		}
	}
	return best
}

func areApart(f [][]int, places []int) bool {
	for i, place := range places {
		if len(f[place]) == 0 {
			return false
		}
		for _, other := range places[:i] {
			if meets(f[place], f[other]) {
				return false
			}
		}
	}
	return true
}

// expectNumbers holds Common, Together and Without, and the second consequence of P3.3.
func expectNumbers(t *testing.T, f [][]int) {
	t.Helper()
	var all, in []int
	for n := range 8 {
		has := func(set []int) bool { return slices.Contains(set, n) }
		if !slices.ContainsFunc(f, func(set []int) bool { return !has(set) }) {
			all = append(all, n)
		}
		if slices.ContainsFunc(f, has) {
			in = append(in, n)
		}
		var want [][]int
		for _, set := range f {
			want = append(want, slices.DeleteFunc(slices.Clone(set), func(k int) bool { return k == n }))
		}
		if g, e := blame.Without(f, n); e != api.OK || !same(g, want) {
			t.Fatal("P3.3: Without:", f, n, g, e)
		}
	}
	common, e1 := blame.Common(f)
	together, e2 := blame.Together(f)
	if e1 != api.OK || e2 != api.OK || !slices.Equal(common, all) || !slices.Equal(together, in) {
		t.Fatal("P3.3:", f, common, together)
	}
	for n := range 8 {
		if is, e := blame.Hits(f, []int{n}); e != api.OK || is != slices.Contains(common, n) {
			t.Fatal("P3.3: the consequence:", f, n, is, e)
		}
	}
}
