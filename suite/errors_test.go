package suite_test

import (
	"math"
	"slices"
	"testing"

	"tinker/api"
	"tinker/sample"
	"tinker/suite"
)

// call calls a function with a suite, a list and a number, of which it may use less; it returns the number of items that are not zero in the other results.
type call func(s [][]int, list []int, n int) (int, api.Errno)

// ofSuites are the functions with a suite alone.
func ofSuites() map[string]call {
	of := func(f func([][]int) ([]int, api.Errno)) call {
		return func(s [][]int, _ []int, _ int) (int, api.Errno) {
			set, e := f(s)
			return len(set), e
		}
	}
	return map[string]call{
		"Validate": func(s [][]int, _ []int, _ int) (int, api.Errno) { return 0, suite.Validate(s) },
		"Open":     of(suite.Open), "Cover": of(suite.Cover), "Excluding": of(suite.Excluding),
		"Essential": of(suite.Essential), "Needless": of(suite.Needless), "Greedy": of(suite.Greedy),
		"Best": func(s [][]int, _ []int, _ int) (int, api.Errno) {
			order, wait, e := suite.Best(s)
			return len(order) + wait, e
		},
	}
}

// ofRows are the functions with a set of rows.
func ofRows() map[string]call {
	of := func(f func([][]int, []int) ([]int, api.Errno)) call {
		return func(s [][]int, rows []int, _ int) (int, api.Errno) {
			set, e := f(s, rows)
			return len(set), e
		}
	}
	return map[string]call{
		"Met": of(suite.Met), "Least": of(suite.Least),
		"CheckCover": func(s [][]int, rows []int, _ int) (int, api.Errno) { return 0, suite.CheckCover(s, rows) },
	}
}

// ofCosts is the function with costs.
func ofCosts() map[string]call {
	return map[string]call{"Cheapest": func(s [][]int, costs []int, _ int) (int, api.Errno) {
		cover, sum, e := suite.Cheapest(s, costs)
		return len(cover) + sum, e
	}}
}

// ofOrders are the functions with an order.
func ofOrders() map[string]call {
	return map[string]call{
		"Wait": func(s [][]int, order []int, _ int) (int, api.Errno) { return suite.Wait(s, order) },
		"Share": func(s [][]int, order []int, _ int) (int, api.Errno) {
			share, e := suite.Share(s, order)
			return share.Num + share.Den, e
		},
		"Twist": func(s [][]int, order []int, _ int) (int, api.Errno) {
			twisted, e := suite.Twist(s, order)
			return len(twisted), e
		},
	}
}

// ofNumbers are the functions with the number of a row, or of a goal.
func ofNumbers() map[string]call {
	of := func(f func([][]int, int) ([][]int, api.Errno)) call {
		return func(s [][]int, _ []int, n int) (int, api.Errno) {
			rest, e := f(s, n)
			return len(rest), e
		}
	}
	return map[string]call{"Without": of(suite.Without), "Drop": of(suite.Drop)}
}

// refuse expects an error, and with it zero values, of all these functions.
func refuse(t *testing.T, calls map[string]call, s [][]int, list []int, n int, want api.Errno) {
	t.Helper()
	for name, f := range calls {
		if items, e := f(s, list, n); e != want || items != 0 {
			t.Errorf("P8.1, R3: %s: %v %v %d: %d with %d items instead of %d", name, s, list, n, e, items, want)
		}
	}
}

// wrongSuites are no suites, by the error for each.
func wrongSuites() map[api.Errno][][][]int {
	long := append([][]int{make([]int, 11)}, three()...)
	bad := append(three(), []int{0, 2, 1})
	arg := [][][]int{
		{{0, 1}, {0}}, {{0}, {0, 1}}, {nil, {0}}, {{0}, nil}, {{0, 1, 1}, {0, 1, 1}, {0, 1}}, {{0}, make([]int, 11)}, {nil, make([]int, 11)}, {{0}, make([]int, 5000)}, bad, append(bad, []int{1}),
		append(alone(7), make([]int, 6)), {slices.Repeat([]int{2}, 10)},
	}
	for _, n := range []int{math.MinInt, -1, 2, 256, 257, math.MaxInt} {
		arg = append(arg, [][]int{{n}}, [][]int{{0, 1}, {1, n}}, [][]int{{n, 0}, {0, 0}}, append(alone(7), []int{0, 0, 0, 0, 0, 0, n}))
	}
	return map[api.Errno][][][]int{
		api.ErrLarge: {make([][]int, 9), make([][]int, 5000), {make([]int, 11)}, {make([]int, 5000)}, {slices.Repeat([]int{2}, 11)}, long, full(9, 1), full(9, 11), append(bad, full(5, 2)...), append(alone(8), make([]int, 9))},
		api.ErrArg:   arg,
	}
}

func TestValidate(t *testing.T) {
	for _, s := range [][][]int{
		nil, {}, {nil}, {{}}, {nil, {}}, make([][]int, 8), {{0}}, {{1}}, {{0, 1}, {1, 0}, {1, 1}, {0, 0}}, three(), alone(8), full(8, 10), make10(8), full(1, 10), full(8, 1),
	} {
		for name, f := range ofSuites() {
			if _, e := f(s, nil, 0); e != api.OK {
				t.Error("P8.1:", name, s, e)
			}
		}
	}
}

// TestErrorsOfSuites: they come before those of all other arguments.
func TestErrorsOfSuites(t *testing.T) {
	for want, list := range wrongSuites() {
		for _, s := range list {
			refuse(t, ofSuites(), s, nil, 0, want)
			for _, other := range [][]int{nil, {0}, {0, 1}, {1, 0}, {0, 1, 2}, {-1}, {9}, {0, 0}, slices.Repeat([]int{1}, len(s))} {
				for _, calls := range []map[string]call{ofRows(), ofCosts(), ofOrders()} {
					refuse(t, calls, s, other, 0, want)
				}
			}
			for _, n := range []int{0, -1, 100} {
				refuse(t, ofNumbers(), s, nil, n, want)
			}
		}
	}
}

// TestErrorsOfRows: lists that are no sets of rows.
func TestErrorsOfRows(t *testing.T) {
	for _, s := range [][][]int{nil, {nil, nil, nil}, three(), {{0}, {0}, {0}}} {
		for _, rows := range [][]int{{3}, {-1}, {0, 0}, {1, 0}, {0, 1, 1}, {0, 2, 1}, {0, 1, 2, 3}, {-1, 0, 1}, {math.MinInt}, {math.MaxInt}, {0, math.MaxInt}, make([]int, 5000)} {
			refuse(t, ofRows(), s, rows, 0, api.ErrArg)
		}
	}
	refuse(t, ofRows(), nil, []int{0}, 0, api.ErrArg)
	refuse(t, ofRows(), full(8, 10), []int{8}, 0, api.ErrArg)
	refuse(t, ofRows(), full(8, 10), []int{0, 9}, 0, api.ErrArg)
}

// TestErrorsOfCosts: they must be as many as there are rows, whether these are needed or not.
func TestErrorsOfCosts(t *testing.T) {
	for _, s := range [][][]int{{nil, nil, nil}, three(), {{0}, {0}, {0}}} {
		for _, costs := range [][]int{nil, {1}, {1, 1}, {1, 1, 1, 1}, {0, 1, 1}, {1, 0, 1}, {1, 1, 0}, {1, 1, -1}, {100, 1, 1}, {1, 1, 100}, {1, math.MinInt, 1}, {1, math.MaxInt, 1}, make([]int, 5000)} {
			refuse(t, ofCosts(), s, costs, 0, api.ErrArg)
		}
	}
	refuse(t, ofCosts(), nil, []int{1}, 0, api.ErrArg)
	for _, costs := range [][]int{{1, 1, 1}, {99, 99, 99}, {1, 99, 50}} {
		if _, _, e := suite.Cheapest(three(), costs); e != api.OK {
			t.Error("P8.1: Cheapest:", costs, e)
		}
	}
}

// TestErrorsOfOrders: lists that are no orders of three rows; Share refuses them before it looks for open goals.
func TestErrorsOfOrders(t *testing.T) {
	for _, s := range [][][]int{{nil, nil, nil}, three(), {{0}, {0}, {0}}} {
		for _, order := range [][]int{
			nil, {0}, {0, 1}, {2, 1}, {0, 0, 1}, {0, 1, 1}, {2, 2, 2}, {0, 2, 2}, {0, 1, 3}, {-1, 0, 1}, {1, 2, 3}, {0, 1, 2, 2}, {0, 1, 2, 3}, {2, 1, 0, 0}, {math.MinInt, 0, math.MaxInt}, make([]int, 5000),
		} {
			refuse(t, ofOrders(), s, order, 0, api.ErrArg)
		}
	}
	refuse(t, ofOrders(), nil, []int{0}, 0, api.ErrArg)
	refuse(t, ofOrders(), full(8, 10), []int{0, 1, 2, 3, 4, 5, 6, 6}, 0, api.ErrArg)
}

// TestErrNone: there is no such row, no such goal, or no open goal. A suite may have more rows than goals, or fewer.
func TestErrNone(t *testing.T) {
	for _, n := range []int{math.MinInt, -1, 10, 11, math.MaxInt} {
		for _, s := range [][][]int{nil, {nil}, three(), full(8, 10), full(1, 10)} {
			refuse(t, ofNumbers(), s, nil, n, api.ErrNone)
		}
	}
	without, drop := map[string]call{"Without": ofNumbers()["Without"]}, map[string]call{"Drop": ofNumbers()["Drop"]}
	refuse(t, without, nil, nil, 0, api.ErrNone)
	refuse(t, without, three(), nil, 3, api.ErrNone)
	refuse(t, without, full(1, 10), nil, 1, api.ErrNone)
	refuse(t, without, full(8, 10), nil, 8, api.ErrNone)
	refuse(t, drop, nil, nil, 0, api.ErrNone)
	refuse(t, drop, make([][]int, 8), nil, 0, api.ErrNone)
	refuse(t, drop, three(), nil, 3, api.ErrNone)
	refuse(t, drop, full(8, 1), nil, 1, api.ErrNone)
	for n := range 10 {
		if rest, e := suite.Drop(full(1, 10), n); e != api.OK || !same(rest, full(1, 9)) {
			t.Error("P8.1: Drop:", n, rest, e)
		}
	}
	for n := range 8 {
		if rest, e := suite.Without(full(8, 1), n); e != api.OK || !same(rest, full(7, 1)) {
			t.Error("P8.1: Without:", n, rest, e)
		}
	}
	share := map[string]call{"Share": ofOrders()["Share"]}
	refuse(t, share, nil, nil, 0, api.ErrNone)
	refuse(t, share, make([][]int, 2), []int{1, 0}, 0, api.ErrNone)
	refuse(t, share, make10(3), []int{1, 0, 2}, 0, api.ErrNone)
}

// withRoom copies a list; behind the copy there is room that others must not write.
func withRoom[T any](list []T) []T {
	return slices.Concat(list, make([]T, 4))[:len(list)]
}

// TestMemory: a result shares no memory with an argument or with another result, and no argument is changed, nor the room behind it.
func TestMemory(t *testing.T) {
	s := withRoom(three())
	for i := range s {
		s[i] = withRoom(s[i])
	}
	rows, costs, order := withRoom([]int{0, 1, 2}), withRoom([]int{5, 9, 1}), withRoom([]int{0, 1, 2})
	for range 2 {
		without, _ := suite.Without(s, 0)
		first, _ := suite.Without(s, 2)
		drop, _ := suite.Drop(s, 0)
		last, _ := suite.Drop(s, 2)
		twisted, _ := suite.Twist(s, order)
		lists := slices.Concat(without, first, drop, last, twisted)
		for _, table := range [][][]int{without, first, drop, last, twisted} {
			for i := range table[:cap(table)] {
				table[:cap(table)][i] = nil
			}
		}
		open, _ := suite.Open(s)
		met, _ := suite.Met(s, rows)
		cover, _ := suite.Cover(s)
		cheapest, _, _ := suite.Cheapest(s, costs)
		excluding, _ := suite.Excluding(s)
		essential, _ := suite.Essential(s)
		needless, _ := suite.Needless(s)
		least, _ := suite.Least(s, rows)
		needed, _ := suite.Least(s, rows[:2])
		greedy, _ := suite.Greedy(s)
		best, _, _ := suite.Best(s)
		suite.CheckCover(s, rows)
		suite.Wait(s, order)
		suite.Share(s, order)
		for _, list := range append(lists, open, met, cover, cheapest, excluding, essential, needless, least, needed, greedy, best) {
			if !sample.Spoil(list) {
				t.Error("R5: a result is shared or empty:", list)
			}
		}
	}
	for i, row := range three() {
		if !slices.Equal(s[i][:7], append(row, 0, 0, 0, 0)) {
			t.Error("R5: the suite is changed:", i, s[i][:7])
		}
	}
	if !same(s[3:7], make([][]int, 4)) || !slices.Equal(rows[:7], []int{0, 1, 2, 0, 0, 0, 0}) || !slices.Equal(costs[:7], []int{5, 9, 1, 0, 0, 0, 0}) || !slices.Equal(order[:7], []int{0, 1, 2, 0, 0, 0, 0}) {
		t.Error("R5: an argument is changed:", s[:7], rows[:7], costs[:7], order[:7])
	}
}
