package check_test

import (
	"slices"
	"testing"

	"tinker/api"
	"tinker/check"
	"tinker/code"
	"tinker/sample"
)

// r is a fraction.
func r(num, den int) api.Rat {
	return api.Rat{Num: num, Den: den}
}

func TestScoresExamples(t *testing.T) {
	under := func(want int) api.Test { return api.Test{In: []int{0, 1, 0, 0}, Out: 2, Want: want} } // leaves out the line 1
	for _, x := range []struct {
		what           string
		p              []api.Line
		l              []api.Test
		scores         []api.Rat
		suspects, rank []int
	}{
		{"the document's example", sample.Six(), []api.Test{wants(0, 6), wants(0, 7)}, []api.Rat{r(1, 2), r(1, 2)}, []int{0, 1}, []int{0, 1}},
		{"no test", sample.Six(), nil, []api.Rat{r(0, 1), r(0, 1)}, nil, []int{0, 1}},
		{"no test fails", skips(), []api.Test{under(0), wants(2, 9)}, []api.Rat{r(0, 1), r(0, 1), r(0, 1)}, nil, []int{0, 1, 2}},
		{"a line that no test does", skips(), []api.Test{under(0)}, []api.Rat{r(0, 1), r(0, 1), r(0, 1)}, nil, []int{0, 1, 2}},
		{"all tests fail", skips(), []api.Test{under(1), under(2)}, []api.Rat{r(1, 1), r(0, 1), r(1, 1)}, []int{0, 2}, []int{0, 2, 1}},
		{"a line that just the failing test does", skips(), []api.Test{under(0), wants(2, 8)}, []api.Rat{r(1, 2), r(1, 1), r(1, 2)}, []int{1}, []int{1, 0, 2}},
		{"a line that just passing tests do", skips(), []api.Test{under(1), wants(2, 9)}, []api.Rat{r(1, 2), r(0, 1), r(1, 2)}, []int{0, 2}, []int{0, 2, 1}},
		{"failing tests that do not do the line", skips(), []api.Test{under(1), wants(2, 8), wants(2, 9)}, []api.Rat{r(2, 3), r(1, 3), r(2, 3)}, []int{0, 2}, []int{0, 2, 1}},
		{"in lowest terms", skips(), []api.Test{under(1), under(2), wants(2, 9), wants(2, 9)}, []api.Rat{r(1, 2), r(0, 1), r(1, 2)}, []int{0, 2}, []int{0, 2, 1}},
	} {
		scores, e := check.Scores(x.p, x.l)
		suspects, f := check.Suspects(x.p, x.l)
		rank, g := check.Rank(x.p, x.l)
		if e != api.OK || f != api.OK || g != api.OK || !slices.Equal(scores, x.scores) || !slices.Equal(suspects, x.suspects) || !slices.Equal(rank, x.rank) {
			t.Errorf("P2.3: %s: %v %v %v", x.what, scores, suspects, rank)
		}
	}
}

// counted has how many failing and passing tests there are, and in how many of each a line is done.
type counted struct {
	failing, inFailing, inPassing int
}

func count(t *testing.T, p []api.Line, l []api.Test, line int) counted {
	var c counted
	for _, x := range l {
		done, _ := code.Done(p, x.In)
		is := slices.Contains(done, line)
		fails := ends(t, p, x.In, x.Out) != x.Want
		if fails {
			c.failing++
		}
		if is && fails {
			c.inFailing++
		}
		if is && !fails {
			c.inPassing++
		}
	}
	return c
}

// TestScoresOfRuns holds scores, suspects and ranks against what P2.3 says of them.
func TestScoresOfRuns(t *testing.T) {
	m := sample.New()
	kinds := map[api.Rat]bool{}
	for range 3000 {
		p := m.Program()
		l := m.Tests(p)
		scores, e := check.Scores(p, l)
		if e != api.OK || len(scores) != len(p) {
			t.Fatal("P2.3:", p, l, scores, e)
		}
		for line, score := range scores {
			kinds[score] = true
			expectScore(t, score, count(t, p, l, line))
		}
		failing, _ := check.Failing(p, l)
		var suspects []int
		for line, s := range scores {
			beaten := slices.ContainsFunc(scores, func(other api.Rat) bool { return less(s, other) })
			if len(failing) > 0 && !beaten {
				suspects = append(suspects, line)
			}
		}
		expectList(t, "P2.3: Suspects", check.Suspects, p, l, suspects)
		rank, e := check.Rank(p, l)
		expectRank(t, rank, scores)
		if e != api.OK {
			t.Fatal("P2.3:", p, l, e)
		}
	}
	if len(kinds) < 20 {
		t.Error("too few scores:", len(kinds))
	}
}

func less(a, b api.Rat) bool {
	return a.Num*b.Den < b.Num*a.Den
}

func expectScore(t *testing.T, score api.Rat, c counted) {
	t.Helper()
	if c.failing == 0 {
		if score != r(0, 1) {
			t.Fatal("P2.3: no test fails:", score)
		}
		return
	}
	if score.Den <= 0 || score.Num*(c.failing+c.inPassing) != c.inFailing*score.Den {
		t.Fatal("P2.3:", score, c)
	}
	for d := 2; d <= score.Den; d++ {
		if score.Num%d == 0 && score.Den%d == 0 {
			t.Fatal("P2.3: not in lowest terms:", score)
		}
	}
	one := c.inFailing == c.failing && c.inPassing == 0
	if less(r(1, 1), score) || (score == r(1, 1)) != one {
		t.Fatal("P2.3: the consequence:", score, c)
	}
}

func expectRank(t *testing.T, rank []int, scores []api.Rat) {
	t.Helper()
	sorted := slices.Sorted(slices.Values(rank))
	for i, line := range sorted {
		if line != i || len(rank) != len(scores) {
			t.Fatal("P2.3: not all lines once:", rank)
		}
	}
	for i := 1; i < len(rank); i++ {
		a, b := rank[i-1], rank[i]
		if less(scores[a], scores[b]) || scores[a] == scores[b] && a > b {
			t.Fatal("P2.3:", rank, scores)
		}
	}
}
