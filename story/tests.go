package story

import (
	"tinker/api"
	"tinker/check"
	"tinker/kit"
	"tinker/patch"
)

// validateTests returns the errors of a program, of its history and of tests.
func validateTests(p []api.Line, h [][]api.Edit, l []api.Test) api.Errno {
	return kit.FirstError(Validate(p, h), check.ValidateTests(l))
}

// passes reports whether the program after the first n repairs passes a test.
func (h history) passes(p []api.Line, n int, t api.Test) bool {
	is, _ := check.Passes(h.at(p, n), t)
	return is
}

// Green returns the set of the numbers of repairs after which a test passes.
func Green(p []api.Line, h [][]api.Edit, t api.Test) ([]int, api.Errno) {
	if e := validateTests(p, h, []api.Test{t}); e != api.OK {
		return nil, e
	}
	green := make([]bool, len(h)+1)
	for n := range green {
		green[n] = history(h).passes(p, n, t)
	}
	return kit.Places(green), api.OK
}

// Bisect returns a repair that changes whether a test passes: ErrState if the whole history does not change it.
func Bisect(p []api.Line, h [][]api.Edit, t api.Test) (int, api.Errno) {
	if e := validateTests(p, h, []api.Test{t}); e != api.OK {
		return 0, e
	}
	before := history(h).passes(p, 0, t)
	isChanged := func(n int) bool { return history(h).passes(p, n, t) != before }
	from, to := 0, len(h)
	if !isChanged(to) {
		return 0, api.ErrState
	}
	for to-from > 1 {
		middle := (from + to) / 2
		if isChanged(middle) {
			to = middle
		} else {
			from = middle
		}
	}
	return from, api.OK
}

// Losses returns all pairs of a repair and of a test that passes before it and fails after it.
func Losses(p []api.Line, h [][]api.Edit, l []api.Test) ([][2]int, api.Errno) {
	if e := validateTests(p, h, l); e != api.OK {
		return nil, e
	}
	var list [][2]int
	for n, x := range h {
		lost, _ := patch.Breaks(history(h).at(p, n), x, l)
		for _, test := range lost {
			list = append(list, [2]int{n, test})
		}
	}
	return list, api.OK
}
