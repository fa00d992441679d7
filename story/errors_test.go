package story_test

import (
	"math"
	"slices"
	"testing"

	"tinker/api"
	"tinker/sample"
	"tinker/story"
)

// arguments are those of a call, beside the program and the history. Not each function has all of them.
type arguments struct {
	n          int // the number of a repair, or of a line
	order, set []int
	l          []api.Test
}

// test is the first test, or no test at all.
func (x arguments) test() api.Test {
	if len(x.l) == 0 {
		return api.Test{}
	}
	return x.l[0]
}

// call calls a function; it returns the number of items that are not zero in the other results.
type call func(p []api.Line, h [][]api.Edit, x arguments) (int, api.Errno)

// some counts a bool.
func some(is bool) int {
	if is {
		return 1
	}
	return 0
}

// ofHistories are the functions with a program and a history alone.
func ofHistories() map[string]call {
	return map[string]call{
		"Validate": func(p []api.Line, h [][]api.Edit, _ arguments) (int, api.Errno) { return 0, story.Validate(p, h) },
		"Play": func(p []api.Line, h [][]api.Edit, _ arguments) (int, api.Errno) {
			q, e := story.Play(p, h)
			return len(q), e
		},
		"CountOrders": func(p []api.Line, h [][]api.Edit, _ arguments) (int, api.Errno) { return story.CountOrders(p, h) },
		"LastOrder": func(p []api.Line, h [][]api.Edit, _ arguments) (int, api.Errno) {
			list, e := story.LastOrder(p, h)
			return len(list), e
		},
		"Squash": func(p []api.Line, h [][]api.Edit, _ arguments) (int, api.Errno) {
			x, e := story.Squash(p, h)
			return len(x), e
		},
		"Idle": func(p []api.Line, h [][]api.Edit, _ arguments) (int, api.Errno) {
			set, e := story.Idle(p, h)
			return len(set), e
		},
	}
}

// ofRepairs are the functions with the number of a repair.
func ofRepairs() map[string]call {
	of := func(f func([]api.Line, [][]api.Edit, int) ([]int, api.Errno)) call {
		return func(p []api.Line, h [][]api.Edit, x arguments) (int, api.Errno) {
			set, e := f(p, h, x.n)
			return len(set), e
		}
	}
	return map[string]call{"Direct": of(story.Direct), "Needs": of(story.Needs), "Needed": of(story.Needed)}
}

// ofNumbers are the other functions with a number.
func ofNumbers() map[string]call {
	return map[string]call{
		"At": func(p []api.Line, h [][]api.Edit, x arguments) (int, api.Errno) {
			q, e := story.At(p, h, x.n)
			return len(q), e
		},
		"Who": func(p []api.Line, h [][]api.Edit, x arguments) (int, api.Errno) {
			n, is, e := story.Who(p, h, x.n)
			return n + some(is), e
		},
	}
}

// ofOrders are the functions with an order.
func ofOrders() map[string]call {
	return map[string]call{
		"CheckOrder": func(p []api.Line, h [][]api.Edit, x arguments) (int, api.Errno) {
			return 0, story.CheckOrder(p, h, x.order)
		},
		"PlayOrder": func(p []api.Line, h [][]api.Edit, x arguments) (int, api.Errno) {
			q, e := story.PlayOrder(p, h, x.order)
			return len(q), e
		},
	}
}

// ofSets is the function with a set.
func ofSets() map[string]call {
	return map[string]call{"Revert": func(p []api.Line, h [][]api.Edit, x arguments) (int, api.Errno) {
		q, left, e := story.Revert(p, h, x.set)
		return len(q) + len(left), e
	}}
}

// ofTests are the functions with tests; ofOneTest are those of them with one.
func ofTests() map[string]call {
	calls := ofOneTest()
	calls["Losses"] = func(p []api.Line, h [][]api.Edit, x arguments) (int, api.Errno) {
		list, e := story.Losses(p, h, x.l)
		return len(list), e
	}
	return calls
}

func ofOneTest() map[string]call {
	return map[string]call{
		"Green": func(p []api.Line, h [][]api.Edit, x arguments) (int, api.Errno) {
			set, e := story.Green(p, h, x.test())
			return len(set), e
		},
		"Bisect": func(p []api.Line, h [][]api.Edit, x arguments) (int, api.Errno) { return story.Bisect(p, h, x.test()) },
	}
}

// refuse calls functions; if names are given, those of these names alone.
func refuse(t *testing.T, calls map[string]call, p []api.Line, h [][]api.Edit, x arguments, want api.Errno, names ...string) {
	t.Helper()
	for name, call := range calls {
		if len(names) > 0 && !slices.Contains(names, name) {
			continue
		}
		if n, e := call(p, h, x); e != want || n != 0 {
			t.Errorf("P7.1, R3: %s of %v, %v, %v: %d items, %d instead of %d", name, p, h, x, n, e, want)
		}
	}
}

// refuseAll calls all functions with arguments that are right for three(), and with wrong ones.
func refuseAll(t *testing.T, p []api.Line, h [][]api.Edit, want api.Errno) {
	t.Helper()
	for _, x := range []arguments{
		{n: 0, order: []int{0, 1, 2}, set: []int{0}, l: []api.Test{wants(0, 9)}},
		{n: 1, order: []int{2, 1, 0}, set: nil, l: []api.Test{wants(0, 8)}},
		{n: -1, order: []int{0, 0}, set: []int{1, 0}, l: []api.Test{{}}},
		{n: 9, order: nil, set: []int{-1}, l: make([]api.Test, 9)},
	} {
		for _, calls := range []map[string]call{ofHistories(), ofRepairs(), ofNumbers(), ofOrders(), ofSets(), ofTests()} {
			refuse(t, calls, p, h, x, want)
		}
	}
}

// wrongRepairs are no patches, or none for a program of two lines, by the error for them.
func wrongRepairs() map[api.Errno][][]api.Edit {
	bad := []api.Edit{{At: 0, Line: sample.BadLine()}}
	arg := [][]api.Edit{
		bad, sets(1, 0, 0), sets(1, 1, 0), sets(1, 7, 2), sets(10, 0), sets(-10, 1), sets(1, -1, 0), sets(1, 0, 1, 8), {{At: 1, Line: api.Line{To: 1}}},
		{put(0, 1), {At: 2, Line: sample.BadLine()}}, append(sets(1, 2, 3), bad...),
	}
	for _, at := range []int{math.MinInt, -1, 8, 9, math.MaxInt} {
		arg = append(arg, sets(1, at))
	}
	return map[api.Errno][][]api.Edit{
		api.ErrArg:   arg,
		api.ErrLarge: {sets(1, 0, 1, 2, 3, 4), sets(1, 4, 3, 2, 1, 0), sets(10, 0, 0, 0, 0, 0), make([]api.Edit, 5000), sets(1, 9, 9, 9, 9, 9)},
		api.ErrNone:  {sets(1, 2), sets(1, 7), sets(1, 0, 2), sets(1, 0, 1, 2, 3), sets(1, 4, 5, 6, 7), {{At: 2}}},
	}
}

// wrongHistories are histories with a wrong repair, which is the first one of several, by the error for it.
func wrongHistories() map[api.Errno][][][]api.Edit {
	list := map[api.Errno][][][]api.Edit{}
	for e, repairs := range wrongRepairs() {
		for _, x := range repairs {
			list[e] = append(list[e], [][]api.Edit{x}, [][]api.Edit{sets(1, 0, 1), x}, [][]api.Edit{nil, nil, nil, nil, nil, nil, nil, x}, append([][]api.Edit{x}, three()...))
			for _, others := range wrongRepairs() {
				list[e] = append(list[e], [][]api.Edit{x, others[0]}, [][]api.Edit{sets(1, 1), x, sets(2, 0), others[1]})
			}
		}
	}
	return list
}

// TestErrorsOfPrograms: those of the program come before those of the history and all others.
func TestErrorsOfPrograms(t *testing.T) {
	histories := [][][]api.Edit{nil, three(), make([][]api.Edit, 9)}
	for _, list := range wrongHistories() {
		histories = append(histories, list[0], list[1])
	}
	for _, h := range histories {
		refuseAll(t, sample.TooLong(), h, api.ErrLarge)
		refuseAll(t, append(sample.TooLong(), sample.BadLine()), h, api.ErrLarge)
		refuseAll(t, []api.Line{set(9), sample.BadLine()}, h, api.ErrArg)
		refuseAll(t, []api.Line{{To: 1}}, h, api.ErrArg)
	}
}

// TestErrorsOfHistories: too many repairs come first; then the first wrong repair decides, and of its errors the first one. Those of the other arguments come last.
func TestErrorsOfHistories(t *testing.T) {
	wrong := make([][]api.Edit, 9)
	wrong[0] = sets(1, 9)
	missing := make([][]api.Edit, 9)
	missing[0] = sets(1, 7)
	for _, h := range [][][]api.Edit{make([][]api.Edit, 9), make([][]api.Edit, 5000), wrong, missing, slices.Concat(three(), three(), three())} {
		refuseAll(t, nine(), h, api.ErrLarge)
		refuseAll(t, nil, h, api.ErrLarge)
	}
	for want, list := range wrongHistories() {
		for _, h := range list {
			refuseAll(t, nine(), h, want)
		}
	}
	refuseAll(t, nil, history([]int{0}), api.ErrNone)
	refuseAll(t, nones(7), history([]int{0, 6}, []int{7}), api.ErrNone)
	refuseAll(t, nones(7), history([]int{8}, []int{7}), api.ErrArg)
}

// TestValid: histories of all sizes.
func TestValid(t *testing.T) {
	for _, x := range []struct {
		p []api.Line
		h [][]api.Edit
	}{
		{nil, nil}, {nil, [][]api.Edit{}}, {[]api.Line{}, make([][]api.Edit, 8)}, {nine(), three()}, {nine(), [][]api.Edit{{}, nil, sets(-9, 1)}}, {nones(8), history([]int{0, 1, 2, 7}, []int{4, 5, 6, 7})},
		{nones(8), history([]int{0}, []int{1}, []int{2}, []int{3}, []int{4}, []int{5}, []int{6}, []int{7})}, {nones(1), [][]api.Edit{{{Line: api.Line{Op: api.Skip, To: 8, A: 3, B: 3}}}}},
	} {
		if e := story.Validate(x.p, x.h); e != api.OK {
			t.Error("P7.1: Validate:", x.p, x.h, e)
		}
	}
}

// TestErrorsOfTests: they come before that of the state.
func TestErrorsOfTests(t *testing.T) {
	for _, h := range [][][]api.Edit{nil, three(), make([][]api.Edit, 8)} {
		for _, wrong := range []api.Test{{}, wants(4, 0), wants(-1, 0), wants(0, 1000), wants(0, -1000), {In: []int{0, 0, 0}}, {In: []int{0, 0, 0, 1000}}, {In: make([]int, 5)}} {
			refuse(t, ofTests(), nine(), h, arguments{l: []api.Test{wrong}}, api.ErrArg)
			refuse(t, ofTests(), nine(), h, arguments{l: []api.Test{wants(0, 9), wrong}}, api.ErrArg, "Losses")
		}
		for _, l := range [][]api.Test{make([]api.Test, 9), make([]api.Test, 1000), slices.Repeat([]api.Test{wants(0, 9)}, 9)} {
			refuse(t, ofTests(), nine(), h, arguments{l: l}, api.ErrLarge, "Losses")
		}
	}
	if list, e := story.Losses(nine(), three(), slices.Repeat([]api.Test{wants(0, 9)}, 8)); e != api.OK || len(list) != 8 {
		t.Error("P7.1: as many tests as there may be:", list, e)
	}
}

// TestErrNone: there is no such repair, or no such line. A program may have more lines than a history has repairs, or fewer.
func TestErrNone(t *testing.T) {
	for _, n := range []int{math.MinInt, -1, 8, 9, math.MaxInt} {
		for _, h := range [][][]api.Edit{nil, three(), make([][]api.Edit, 8)} {
			for _, p := range [][]api.Line{nine(), nones(8)} {
				refuse(t, ofRepairs(), p, h, arguments{n: n}, api.ErrNone)
				refuse(t, ofNumbers(), p, h, arguments{n: n}, api.ErrNone, "Who")
			}
		}
	}
	refuse(t, ofRepairs(), nones(8), three(), arguments{n: 3}, api.ErrNone)
	refuse(t, ofRepairs(), nones(8), nil, arguments{}, api.ErrNone)
	refuse(t, ofNumbers(), nine(), make([][]api.Edit, 8), arguments{n: 2}, api.ErrNone, "Who")
	refuse(t, ofNumbers(), nil, make([][]api.Edit, 8), arguments{}, api.ErrNone, "Who")
	if n, is, e := story.Who(nones(8), three(), 7); e != api.OK || n != 0 || is {
		t.Error("P7.1: a line behind as many as there are repairs:", n, is, e)
	}
	if set, e := story.Needs(nones(1), history([]int{0}, nil, []int{0}), 2); e != api.OK || !slices.Equal(set, []int{0}) {
		t.Error("P7.1: a repair behind as many as there are lines:", set, e)
	}
}

// TestErrArg: numbers of At, orders and sets that are none for three repairs. Orders that are none come before those that do not keep the needs.
func TestErrArg(t *testing.T) {
	for _, n := range []int{math.MinInt, -1, 4, 8, math.MaxInt} {
		refuse(t, ofNumbers(), nine(), three(), arguments{n: n}, api.ErrArg, "At")
	}
	refuse(t, ofNumbers(), nine(), nil, arguments{n: 1}, api.ErrArg, "At")
	refuse(t, ofNumbers(), nones(8), make([][]api.Edit, 8), arguments{n: 9}, api.ErrArg, "At")
	for _, order := range [][]int{
		nil, {0}, {0, 1}, {2, 1}, {0, 0, 1}, {0, 1, 1}, {2, 2, 2}, {0, 2, 2}, {0, 1, 3}, {-1, 0, 1}, {1, 2, 3}, {0, 1, 2, 2}, {0, 1, 2, 3}, {2, 1, 0, 0}, {math.MinInt, 0, math.MaxInt}, make([]int, 5000),
	} {
		refuse(t, ofOrders(), nine(), three(), arguments{order: order}, api.ErrArg)
		if len(order) > 0 {
			refuse(t, ofOrders(), nine(), nil, arguments{order: order}, api.ErrArg)
		}
	}
	for _, set := range [][]int{{3}, {-1}, {1, 0}, {0, 0}, {0, 2, 2}, {0, 1, 2, 3}, {-1, 1}, {0, 2, 1}, {math.MinInt}, {math.MaxInt}, make([]int, 5000)} {
		refuse(t, ofSets(), nine(), three(), arguments{set: set}, api.ErrArg)
		refuse(t, ofSets(), nine(), nil, arguments{set: set}, api.ErrArg)
	}
	refuse(t, ofSets(), nine(), nil, arguments{set: []int{0}}, api.ErrArg)
}

// withRoom copies a list; behind the copy there is room that others must not write.
func withRoom[T any](list []T) []T {
	return slices.Concat(list, make([]T, 4))[:len(list)]
}

// TestMemory: a result shares no memory with an argument or with another result, and no argument is changed, nor the room behind it.
func TestMemory(t *testing.T) {
	p, h := withRoom(nine()), withRoom(append(three(), nil))
	for n := range h {
		h[n] = withRoom(h[n])
	}
	order, set, l := []int{3, 1, 0, 2}, []int{2}, []api.Test{wants(0, 2), wants(0, 9)}
	for range 2 {
		play, _ := story.Play(p, h)
		none, _ := story.Play(p, nil)
		start, _ := story.At(p, h, 0)
		at, _ := story.At(p, h, 2)
		noOrder, _ := story.PlayOrder(p, nil, nil)
		inOrder, _ := story.PlayOrder(p, h, order)
		reverted, left, _ := story.Revert(p, h, set)
		whole, all, _ := story.Revert(p, h, nil)
		rest, _, _ := story.Revert(p, h, []int{0, 1, 2, 3})
		for _, list := range [][]api.Line{play, none, start, at, noOrder, inOrder, reverted, whole, rest} {
			if !sample.SpoilWith(list, sample.BadLine()) {
				t.Error("R5: a result is shared or empty:", list)
			}
		}
		squash, _ := story.Squash(p, h)
		last, _ := story.LastOrder(p, h)
		direct, _ := story.Direct(p, h, 2)
		needs, _ := story.Needs(p, h, 2)
		needed, _ := story.Needed(p, h, 0)
		idle, _ := story.Idle(p, h)
		green, _ := story.Green(p, h, l[0])
		losses, _ := story.Losses(p, h, l)
		if !sample.SpoilWith(squash, api.Edit{At: 77}) || !sample.SpoilWith(losses, [2]int{77, 77}) {
			t.Error("R5: a result is shared or empty:", squash, losses)
		}
		for _, list := range [][]int{left, all, last, direct, needs, needed, idle, green} {
			if !sample.Spoil(list) {
				t.Error("R5: a result is shared or empty:", list)
			}
		}
	}
	if !slices.Equal(p[:6], append(nine(), nones(4)...)) || !slices.Equal(order, []int{3, 1, 0, 2}) || !slices.Equal(set, []int{2}) || !slices.Equal(l[0].In, sample.Zeros()) {
		t.Error("R5: an argument is changed:", p, order, set, l)
	}
	for n, x := range append(three(), make([][]api.Edit, 5)...) {
		if !slices.Equal(h[:8][n], x) {
			t.Error("R5: the history is changed:", n, h[:8])
		}
	}
	for n, x := range h {
		if room := x[:len(x)+4]; !slices.Equal(room[len(x):], make([]api.Edit, 4)) {
			t.Error("R5: the room behind a repair is changed:", n, room)
		}
	}
}
