package suite_test

import (
	"slices"
	"testing"

	"tinker/api"
	"tinker/sample"
	"tinker/suite"
)

// three is the suite of the chapter's examples.
func three() [][]int { return [][]int{{1, 1, 0}, {0, 1, 1}, {0, 0, 1}} }

// alone is a suite whose rows meet one goal each.
func alone(n int) [][]int {
	s := make([][]int, n)
	for i := range s {
		s[i] = make([]int, n)
		s[i][i] = 1
	}
	return s
}

// full is a suite whose rows meet all goals.
func full(rows, goals int) [][]int {
	s := make([][]int, rows)
	for i := range s {
		s[i] = slices.Repeat([]int{1}, goals)
	}
	return s
}

// TestCoversExamples: suites with all that P8.2 and P8.3 say of them.
func TestCoversExamples(t *testing.T) {
	eight := []int{0, 1, 2, 3, 4, 5, 6, 7}
	for _, x := range []struct {
		what                           string
		s                              [][]int
		open, cover                    []int
		excluding, essential, needless []int
	}{
		{"the document's example", three(), []int{0, 1, 2}, []int{0, 1}, []int{0, 2}, []int{0}, []int{2}},
		{"no rows", nil, nil, nil, nil, nil, nil},
		{"no goals", [][]int{nil, {}, nil}, nil, nil, nil, nil, []int{1, 2}},
		{"one row that meets nothing", [][]int{{0, 0}}, nil, nil, nil, nil, nil},
		{"one row", [][]int{{0, 1, 1}}, []int{1, 2}, []int{0}, []int{1}, []int{0}, nil},
		{"rows that meet nothing", [][]int{{0, 0}, {0, 1}, {0, 0}}, []int{1}, []int{1}, []int{1}, []int{1}, []int{0, 2}},
		{"equal rows", [][]int{{1, 0}, {0, 1}, {1, 0}, {0, 1}}, []int{0, 1}, []int{0, 1}, []int{0, 1}, nil, []int{2, 3}},
		{"a row that meets more comes later", [][]int{{1, 0}, {1, 1}}, []int{0, 1}, []int{1}, []int{0}, []int{1}, []int{0}},
		{"two small covers", [][]int{{1, 0, 0}, {0, 1, 1}, {1, 1, 0}, {0, 0, 1}}, []int{0, 1, 2}, []int{0, 1}, []int{0, 2}, nil, []int{0, 3}},
		{"the smallest cover is the last one", [][]int{{1, 0, 0}, {0, 1, 0}, {0, 0, 1}, {1, 1, 1}}, []int{0, 1, 2}, []int{3}, []int{0}, nil, []int{0, 1, 2}},
		{"more rows than goals that exclude each other", [][]int{{1, 1, 0}, {0, 1, 1}, {1, 0, 1}}, []int{0, 1, 2}, []int{0, 1}, []int{0}, nil, nil},
		{"the first goal excludes few", [][]int{{1, 1, 0, 0}, {1, 0, 1, 0}, {1, 0, 0, 1}}, []int{0, 1, 2, 3}, []int{0, 1, 2}, []int{1, 2, 3}, []int{0, 1, 2}, nil},
		{"two greatest sets of goals", [][]int{{1, 0, 0, 1}, {0, 1, 1, 0}}, []int{0, 1, 2, 3}, []int{0, 1}, []int{0, 1}, []int{0, 1}, nil},
		{"as many rows as there may be", alone(8), eight, eight, eight, eight, nil},
		{"as many rows and goals as there may be", full(8, 10), []int{0, 1, 2, 3, 4, 5, 6, 7, 8, 9}, []int{0}, []int{0}, nil, []int{1, 2, 3, 4, 5, 6, 7}},
		{"the last goal alone", [][]int{{0, 0, 0, 0, 0, 0, 0, 0, 0, 0}, {0, 0, 0, 0, 0, 0, 0, 0, 0, 1}}, []int{9}, []int{1}, []int{9}, []int{1}, []int{0}},
		{"many goals, one row", full(1, 10), []int{0, 1, 2, 3, 4, 5, 6, 7, 8, 9}, []int{0}, []int{0}, []int{0}, nil},
	} {
		expectSet(t, x.what, x.s, map[string]answer{
			"P8.2: Open": {suite.Open, x.open}, "P8.2: Cover": {suite.Cover, x.cover}, "P8.3: Excluding": {suite.Excluding, x.excluding},
			"P8.3: Essential": {suite.Essential, x.essential}, "P8.3: Needless": {suite.Needless, x.needless},
		})
		if e := suite.CheckCover(x.s, x.cover); e != api.OK {
			t.Errorf("P8.2: CheckCover: %s: %d", x.what, e)
		}
	}
}

// answer is a function with a suite alone, and the list that it must return.
type answer struct {
	f    func(s [][]int) ([]int, api.Errno)
	want []int
}

func expectSet(t *testing.T, what string, s [][]int, answers map[string]answer) {
	t.Helper()
	for name, x := range answers {
		if set, e := x.f(s); e != api.OK || !slices.Equal(set, x.want) {
			t.Fatalf("%s: %s: %v: %v %d instead of %v", name, what, s, set, e, x.want)
		}
	}
}

// TestRowsExamples: sets of rows, what they meet, and whether that is all; Least leaves out the last ones first.
func TestRowsExamples(t *testing.T) {
	hole := [][]int{{1, 0, 0}, {0, 0, 0}, {0, 1, 0}}
	twice := [][]int{{1, 0}, {0, 1}, {1, 1}}
	for _, x := range []struct {
		s                [][]int
		rows, met, least []int
		want             api.Errno
	}{
		{three(), []int{0, 1, 2}, []int{0, 1, 2}, []int{0, 1}, api.OK},
		{three(), []int{0, 1}, []int{0, 1, 2}, []int{0, 1}, api.OK},
		{three(), []int{0, 2}, []int{0, 1, 2}, []int{0, 2}, api.OK},
		{three(), []int{1, 2}, []int{1, 2}, []int{1}, api.ErrProof},
		{three(), []int{0}, []int{0, 1}, []int{0}, api.ErrProof},
		{three(), []int{2}, []int{2}, []int{2}, api.ErrProof},
		{three(), nil, nil, nil, api.ErrProof},
		{hole, []int{0, 1, 2}, []int{0, 1}, []int{0, 2}, api.OK},
		{hole, []int{0, 2}, []int{0, 1}, []int{0, 2}, api.OK},
		{hole, []int{1}, nil, nil, api.ErrProof},
		{hole, []int{1, 2}, []int{1}, []int{2}, api.ErrProof},
		{twice, []int{0, 1, 2}, []int{0, 1}, []int{0, 1}, api.OK},
		{twice, []int{1, 2}, []int{0, 1}, []int{2}, api.OK},
		{twice, []int{2}, []int{0, 1}, []int{2}, api.OK},
		{full(8, 10), []int{2, 5, 7}, []int{0, 1, 2, 3, 4, 5, 6, 7, 8, 9}, []int{2}, api.OK},
		{alone(8), []int{0, 7}, []int{0, 7}, []int{0, 7}, api.ErrProof},
		{[][]int{{0, 0}}, nil, nil, nil, api.OK},
		{[][]int{{0, 0}}, []int{0}, nil, nil, api.OK},
		{[][]int{nil, {}}, []int{0, 1}, nil, nil, api.OK},
		{nil, nil, nil, nil, api.OK},
		{[][]int{}, []int{}, nil, nil, api.OK},
	} {
		met, e := suite.Met(x.s, x.rows)
		least, f := suite.Least(x.s, x.rows)
		if e != api.OK || f != api.OK || !slices.Equal(met, x.met) || !slices.Equal(least, x.least) {
			t.Error("P8.2, P8.3: Met, Least:", x.s, x.rows, met, e, least, f)
		}
		if e := suite.CheckCover(x.s, x.rows); e != x.want {
			t.Error("P8.2: CheckCover:", x.s, x.rows, e)
		}
	}
}

// TestCheapestExamples: of covers with the same sum, the first one in ascending order, be it larger or smaller.
func TestCheapestExamples(t *testing.T) {
	whole := [][]int{{1, 1}, {1, 0}, {0, 1}}
	last := [][]int{{1, 0}, {0, 1}, {1, 1}}
	for _, x := range []struct {
		s           [][]int
		costs, want []int
		sum         int
	}{
		{three(), []int{5, 9, 1}, []int{0, 2}, 6},
		{three(), []int{5, 1, 1}, []int{0, 1}, 6},
		{whole, []int{5, 2, 2}, []int{1, 2}, 4},
		{whole, []int{4, 2, 2}, []int{0}, 4},
		{whole, []int{3, 2, 2}, []int{0}, 3},
		{last, []int{2, 2, 4}, []int{0, 1}, 4},
		{last, []int{2, 2, 3}, []int{2}, 3},
		{last, []int{2, 2, 5}, []int{0, 1}, 4},
		{alone(8), slices.Repeat([]int{99}, 8), []int{0, 1, 2, 3, 4, 5, 6, 7}, 792},
		{full(8, 10), []int{9, 8, 7, 6, 6, 7, 8, 9}, []int{3}, 6},
		{[][]int{{0}, {0}}, []int{1, 1}, nil, 0},
		{[][]int{nil}, []int{99}, nil, 0},
		{nil, nil, nil, 0},
	} {
		if cover, sum, e := suite.Cheapest(x.s, x.costs); e != api.OK || !slices.Equal(cover, x.want) || sum != x.sum {
			t.Error("P8.2: Cheapest:", x.s, x.costs, cover, sum, e)
		}
	}
}

// TestCoversOfMany holds P8.2 and P8.3 against all covers, and all sets of goals, of suites.
func TestCoversOfMany(t *testing.T) {
	m, kinds := sample.New(), map[string]int{}
	for range 2500 {
		s := makeSuite(m, m.Below(api.MaxRows+1))
		covers := modelCovers(s)
		smallest := slices.MinFunc(covers, func(a, b []int) int { return len(a) - len(b) })
		expectSet(t, "made", s, map[string]answer{
			"P8.2: Open": {suite.Open, modelOpen(s)}, "P8.2: Cover": {suite.Cover, smallest}, "P8.3: Excluding": {suite.Excluding, modelExcluding(s)},
			"P8.3: Essential": {suite.Essential, modelEssential(s)}, "P8.3: Needless": {suite.Needless, modelNeedless(s)},
		})
		holdCosts(t, m, s, smallest)
		for range 5 {
			rows := sample.Sets(len(s))[m.Below(1<<len(s))]
			holdRows(t, s, rows, kinds)
		}
		holdConsequences(t, s, smallest, covers, kinds)
	}
	for _, kind := range []string{"cover", "no cover", "less", "all are needed", "essential", "needless", "as many as exclude each other", "more"} {
		if kinds[kind] < 50 {
			t.Error("too few of a kind:", kind, kinds)
		}
	}
}

// count counts what is of a kind.
func count(kinds map[string]int, kind string, is bool) {
	if is {
		kinds[kind]++
	}
}

// holdCosts holds Cheapest; with all costs 1 it is Cover, and so with any other equal costs.
func holdCosts(t *testing.T, m *sample.Maker, s [][]int, smallest []int) {
	t.Helper()
	costs, wide := make([]int, len(s)), [...]int{2, 4, api.MaxCost}[m.Below(3)]
	for row := range costs {
		costs[row] = 1 + m.Below(wide)
	}
	want, least := modelCheapest(s, costs)
	if cover, sum, e := suite.Cheapest(s, costs); e != api.OK || !slices.Equal(cover, want) || sum != least {
		t.Fatal("P8.2: Cheapest:", s, costs, cover, sum, e, want, least)
	}
	for _, cost := range []int{1, api.MaxCost} {
		if cover, sum, e := suite.Cheapest(s, slices.Repeat([]int{cost}, len(s))); e != api.OK || !slices.Equal(cover, smallest) || sum != cost*len(smallest) {
			t.Fatal("P8.2: the consequence:", s, cost, cover, sum, e, smallest)
		}
	}
}

// holdRows holds Met, CheckCover and Least.
func holdRows(t *testing.T, s [][]int, rows []int, kinds map[string]int) {
	t.Helper()
	met, e := suite.Met(s, rows)
	least, f := suite.Least(s, rows)
	if e != api.OK || f != api.OK || !slices.Equal(met, modelMet(s, rows)) || !slices.Equal(least, modelLeast(s, rows)) {
		t.Fatal("P8.2, P8.3: Met, Least:", s, rows, met, e, least, f)
	}
	want := api.ErrProof
	if slices.Equal(met, modelOpen(s)) {
		want = api.OK
	}
	if e := suite.CheckCover(s, rows); e != want {
		t.Fatal("P8.2: CheckCover:", s, rows, e, want)
	}
	count(kinds, "cover", want == api.OK)
	count(kinds, "no cover", want != api.OK)
	count(kinds, "less", len(least) < len(rows))
	count(kinds, "all are needed", len(least) == len(rows) && len(rows) > 0)
}

// holdConsequences holds those of P8.3 for all covers; S8 is one of them.
func holdConsequences(t *testing.T, s [][]int, smallest []int, covers [][]int, kinds map[string]int) {
	t.Helper()
	excluding, e := suite.Excluding(s)
	essential, f := suite.Essential(s)
	needless, g := suite.Needless(s)
	if e != api.OK || f != api.OK || g != api.OK {
		t.Fatal("P8.3:", s, e, f, g)
	}
	withoutNeedless := false
	for _, cover := range covers {
		if len(cover) < len(excluding) || !isPart(essential, cover) {
			t.Fatal("S8, P8.3: a cover:", s, cover, excluding, essential)
		}
		isNeedless := func(row int) bool { return slices.Contains(needless, row) }
		withoutNeedless = withoutNeedless || len(cover) == len(smallest) && !slices.ContainsFunc(cover, isNeedless)
	}
	if !withoutNeedless {
		t.Fatal("P8.3: each smallest cover has a needless row:", s, smallest, needless)
	}
	count(kinds, "essential", len(essential) > 0)
	count(kinds, "needless", len(needless) > 0)
	count(kinds, "as many as exclude each other", len(smallest) == len(excluding) && len(smallest) > 1)
	count(kinds, "more", len(smallest) > len(excluding))
}
