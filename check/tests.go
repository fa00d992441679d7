package check

import (
	"slices"

	"tinker/api"
	"tinker/code"
	"tinker/kit"
)

// validateTests returns the errors of a program and of its tests.
func validateTests(p []api.Line, l []api.Test) api.Errno {
	return kit.FirstError(code.Validate(p), ValidateTests(l))
}

// Passes reports whether a program passes a test.
func Passes(p []api.Line, t api.Test) (bool, api.Errno) {
	if e := validateTests(p, []api.Test{t}); e != api.OK {
		return false, e
	}
	return passes(p, t), api.OK
}

func passes(p []api.Line, t api.Test) bool {
	return end(p, t.In, t.Out) == t.Want
}

// Passing returns the set of the tests that a program passes.
func Passing(p []api.Line, l []api.Test) ([]int, api.Errno) {
	if e := validateTests(p, l); e != api.OK {
		return nil, e
	}
	return which(l, func(t api.Test) bool { return passes(p, t) }), api.OK
}

// Failing returns the set of the tests that a program fails.
func Failing(p []api.Line, l []api.Test) ([]int, api.Errno) {
	if e := validateTests(p, l); e != api.OK {
		return nil, e
	}
	return which(l, func(t api.Test) bool { return !passes(p, t) }), api.OK
}

// which returns the set of the numbers of the tests for which is holds.
func which(l []api.Test, is func(t api.Test) bool) []int {
	held := make([]bool, len(l))
	for i, t := range l {
		held[i] = is(t)
	}
	return kit.Places(held)
}

// Table tells, for each test and each line, with 1 or 0 whether the line is done in the test.
func Table(p []api.Line, l []api.Test) ([][]int, api.Errno) {
	if e := validateTests(p, l); e != api.OK {
		return nil, e
	}
	table := make([][]int, len(l))
	for i, t := range l {
		table[i] = row(p, t)
	}
	return table, api.OK
}

// row tells of each line whether it is done in a test.
func row(p []api.Line, t api.Test) []int {
	list := make([]int, len(p))
	done, _ := code.Done(p, t.In)
	for _, line := range done {
		list[line] = 1
	}
	return list
}

// Covered returns the set of the lines that are done in some test.
func Covered(p []api.Line, l []api.Test) ([]int, api.Errno) {
	if e := validateTests(p, l); e != api.OK {
		return nil, e
	}
	covered := make([]bool, len(p))
	for _, t := range l {
		for line, done := range row(p, t) {
			covered[line] = covered[line] || done == 1
		}
	}
	return kit.Places(covered), api.OK
}

// Tells returns the set of the tests that tell two programs apart: their registers Out differ at the end.
func Tells(p, q []api.Line, l []api.Test) ([]int, api.Errno) {
	if e := kit.FirstError(code.Validate(p), code.Validate(q), ValidateTests(l)); e != api.OK {
		return nil, e
	}
	return which(l, func(t api.Test) bool { return end(p, t.In, t.Out) != end(q, t.In, t.Out) }), api.OK
}

// Make returns the test that wants what a program makes of a state.
func Make(p []api.Line, in []int, out int) (api.Test, api.Errno) {
	if e := kit.FirstError(code.Validate(p), code.ValidateState(in)); e != api.OK {
		return api.Test{}, e
	}
	if !kit.IsRegister(out) {
		return api.Test{}, api.ErrArg
	}
	return api.Test{In: slices.Clone(in), Out: out, Want: end(p, in, out)}, api.OK
}
