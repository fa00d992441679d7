package suite_test

import (
	"slices"
	"testing"

	"tinker/api"
	"tinker/sample"
	"tinker/suite"
)

// TestWaitExamples: waits of orders, and their shares; a share of 0/1 stands for ErrNone.
func TestWaitExamples(t *testing.T) {
	for _, x := range []struct {
		s     [][]int
		order []int
		wait  int
		share api.Rat
	}{
		{three(), []int{0, 1, 2}, 1 + 1 + 2, api.Rat{Num: 4, Den: 9}},
		{three(), []int{0, 2, 1}, 1 + 1 + 2, api.Rat{Num: 4, Den: 9}},
		{three(), []int{1, 0, 2}, 2 + 1 + 1, api.Rat{Num: 4, Den: 9}},
		{three(), []int{1, 2, 0}, 3 + 1 + 1, api.Rat{Num: 5, Den: 9}},
		{three(), []int{2, 0, 1}, 2 + 2 + 1, api.Rat{Num: 5, Den: 9}},
		{three(), []int{2, 1, 0}, 3 + 2 + 1, api.Rat{Num: 2, Den: 3}},
		{[][]int{{1}}, []int{0}, 1, api.Rat{Num: 1, Den: 1}},
		{[][]int{{0, 0}, {0, 1}}, []int{0, 1}, 2, api.Rat{Num: 1, Den: 1}},
		{[][]int{{0, 0}, {0, 1}}, []int{1, 0}, 1, api.Rat{Num: 1, Den: 2}},
		{[][]int{{0, 0}, {0, 0}}, []int{1, 0}, 0, api.Rat{}},
		{[][]int{nil, {}}, []int{0, 1}, 0, api.Rat{}},
		{nil, nil, 0, api.Rat{}},
		{[][]int{}, []int{}, 0, api.Rat{}},
		{alone(8), []int{7, 5, 3, 1, 0, 2, 4, 6}, 36, api.Rat{Num: 9, Den: 16}},
		{full(8, 10), []int{3, 1, 0, 2, 4, 5, 6, 7}, 10, api.Rat{Num: 1, Den: 8}},
		{append(make10(7), full(1, 10)...), []int{0, 1, 2, 3, 4, 5, 6, 7}, 80, api.Rat{Num: 1, Den: 1}},
	} {
		if wait, e := suite.Wait(x.s, x.order); e != api.OK || wait != x.wait {
			t.Error("P8.4: Wait:", x.s, x.order, wait, e)
		}
		want := api.OK
		if x.share == (api.Rat{}) {
			want = api.ErrNone
		}
		if share, e := suite.Share(x.s, x.order); e != want || share != x.share {
			t.Error("P8.4: Share:", x.s, x.order, share, e)
		}
	}
}

// make10 makes rows that meet none of 10 goals.
func make10(rows int) [][]int {
	s := make([][]int, rows)
	for i := range s {
		s[i] = make([]int, 10)
	}
	return s
}

// TestOrdersExamples: where the best order is the greedy one, and where it is not.
func TestOrdersExamples(t *testing.T) {
	eight := []int{0, 1, 2, 3, 4, 5, 6, 7}
	for _, x := range []struct {
		what         string
		s            [][]int
		greedy, best []int
		least        int
	}{
		{"the document's example", three(), []int{0, 1, 2}, []int{0, 1, 2}, 4},
		{"no rows", nil, nil, nil, 0},
		{"no goals", [][]int{nil, {}, nil}, []int{0, 1, 2}, []int{0, 1, 2}, 0},
		{"no open goals", [][]int{{0, 0}, {0, 0}}, []int{0, 1}, []int{0, 1}, 0},
		{"the last row meets the most", [][]int{{1, 0, 0}, {0, 1, 1}, {1, 1, 1}}, []int{2, 0, 1}, []int{2, 0, 1}, 3},
		{"a row that meets nothing waits only for goals", [][]int{{0, 0}, {1, 0}, {0, 1}}, []int{1, 2, 0}, []int{1, 2, 0}, 3},
		{"what is met does not count again", [][]int{{1, 1, 1, 0, 0}, {1, 1, 0, 1, 0}, {0, 0, 0, 1, 1}}, []int{0, 2, 1}, []int{0, 2, 1}, 7},
		{"greedy is not best", [][]int{{1, 1, 0, 1, 0, 0}, {1, 1, 1, 0, 0, 0}, {0, 0, 0, 1, 1, 1}}, []int{0, 2, 1}, []int{1, 2, 0}, 9},
		{"greedy has the smallest wait, but is not the first order with it", [][]int{{1, 1, 1, 0, 0, 0}, {0, 0, 0, 1, 1, 1}, {1, 1, 0, 1, 1, 0}}, []int{2, 0, 1}, []int{0, 1, 2}, 9},
		{"each row alone", alone(8), eight, eight, 36},
		{"all rows are equal", full(8, 10), eight, eight, 10},
		{"the last row of many", append(make10(7), full(1, 10)...), []int{7, 0, 1, 2, 3, 4, 5, 6}, []int{7, 0, 1, 2, 3, 4, 5, 6}, 10},
	} {
		greedy, e := suite.Greedy(x.s)
		best, least, f := suite.Best(x.s)
		if e != api.OK || f != api.OK || !slices.Equal(greedy, x.greedy) || !slices.Equal(best, x.best) || least != x.least {
			t.Errorf("P8.4: %s: %v %d %v %d %d", x.what, greedy, e, best, least, f)
		}
	}
}

// TestOrdersOfMany holds P8.4 against all orders of suites. Of those with many rows only some are tried.
func TestOrdersOfMany(t *testing.T) {
	m, kinds := sample.New(), map[string]int{}
	var orders [api.MaxRows + 1][][]int
	for n := range orders {
		orders[n] = sample.Orders(n)
	}
	for range 2500 {
		rows := m.Below(api.MaxRows + 1)
		if rows > 6 && m.Below(6) > 0 {
			rows -= 5
		}
		s := makeSuite(m, rows)
		best, least := modelBest(s, orders[rows])
		greedy := modelGreedy(s)
		if got, wait, e := suite.Best(s); e != api.OK || !slices.Equal(got, best) || wait != least {
			t.Fatal("P8.4: Best:", s, got, wait, e, best, least)
		}
		if got, e := suite.Greedy(s); e != api.OK || !slices.Equal(got, greedy) {
			t.Fatal("P8.4: Greedy:", s, got, e, greedy)
		}
		long := holdOrder(t, s, greedy)
		if long > 4*least {
			t.Fatal("P8.4: the consequence: the wait of Greedy:", s, long, least)
		}
		count(kinds, "greedy is not best", long > least)
		count(kinds, "greedy is best", long == least && least > 0)
		count(kinds, "no open goals", least == 0)
		for range 5 {
			holdOrder(t, s, makeOrder(m, rows))
		}
	}
	for _, kind := range []string{"greedy is not best", "greedy is best", "no open goals"} {
		if kinds[kind] < 20 {
			t.Error("too few of a kind:", kind, kinds)
		}
	}
}

// holdOrder holds Wait and Share for an order; it returns the wait.
func holdOrder(t *testing.T, s [][]int, order []int) int {
	t.Helper()
	want := modelWait(s, order)
	if wait, e := suite.Wait(s, order); e != api.OK || wait != want {
		t.Fatal("P8.4: Wait:", s, order, wait, e, want)
	}
	share, e := suite.Share(s, order)
	all := len(s) * len(modelOpen(s))
	if all == 0 {
		if e != api.ErrNone || share != (api.Rat{}) {
			t.Fatal("P8.4: Share without open goals:", s, order, share, e)
		}
		return want
	}
	if e != api.OK || share.Num*all != share.Den*want || !isLowest(share) {
		t.Fatal("P8.4: Share:", s, order, share, e, want, all)
	}
	if share.Num <= 0 || share.Num > share.Den {
		t.Fatal("P8.4: the consequence: Share is at most 1, and above 0:", s, order, share)
	}
	return want
}

// isLowest reports whether a fraction is valid.
func isLowest(r api.Rat) bool {
	for d := 2; d <= r.Den; d++ {
		if r.Num%d == 0 && r.Den%d == 0 {
			return false
		}
	}
	return r.Den > 0
}
