package seek

import (
	"cmp"
	"slices"

	"tinker/api"
	"tinker/code"
	"tinker/kit"
	"tinker/patch"
)

// Mutants returns the edits with the templates of all lines.
func Mutants(p []api.Line) ([]api.Edit, api.Errno) {
	if e := code.Validate(p); e != api.OK {
		return nil, e
	}
	return mutants(p), api.OK
}

func mutants(p []api.Line) []api.Edit {
	return edits(p, fromTemplates{})
}

// Kills returns the set of the tests that pass, and fail after a mutant is put in.
func Kills(p []api.Line, l []api.Test, m api.Edit) ([]int, api.Errno) {
	if e := kit.FirstError(validateTests(p, l), validatePlace(p, m.At)); e != api.OK {
		return nil, e
	}
	// What is not a valid line is not a template either.
	if !isNear(p[m.At], m.Line) {
		return nil, api.ErrArg
	}
	return kills(p, l, m), api.OK
}

func kills(p []api.Line, l []api.Test, m api.Edit) []int {
	set, _ := patch.Breaks(p, []api.Edit{m}, l)
	return set
}

// Alive returns the mutants that no test kills.
func Alive(p []api.Line, l []api.Test) ([]api.Edit, api.Errno) {
	if e := validateTests(p, l); e != api.OK {
		return nil, e
	}
	return slices.DeleteFunc(mutants(p), func(m api.Edit) bool { return len(kills(p, l, m)) > 0 }), api.OK
}

// Score returns which part of the mutants the tests kill: ErrState if there are no mutants.
func Score(p []api.Line, l []api.Test) (api.Rat, api.Errno) {
	if e := validateTests(p, l); e != api.OK {
		return api.Rat{}, e
	}
	all := len(mutants(p))
	if all == 0 {
		return api.Rat{}, api.ErrState
	}
	return kit.Fraction(len(killers(p, l)), all), api.OK
}

// killers returns, for each mutant that some test kills, the set of these tests.
func killers(p []api.Line, l []api.Test) [][]int {
	var list [][]int
	for _, m := range mutants(p) {
		if set := kills(p, l, m); len(set) > 0 {
			list = append(list, set)
		}
	}
	return list
}

// Enough returns the smallest set of tests that kills all that all tests kill, the first one of several.
func Enough(p []api.Line, l []api.Test) ([]int, api.Errno) {
	if e := validateTests(p, l); e != api.OK {
		return nil, e
	}
	list := killers(p, l)
	for _, set := range choices(len(l)) {
		if killsAll(list, set) {
			return set, api.OK
		}
	}
	return nil, api.OK
}

// killsAll reports whether a set of tests has one of the killers of each mutant.
func killsAll(killers [][]int, tests []int) bool {
	for _, set := range killers {
		if !slices.ContainsFunc(set, func(test int) bool { return slices.Contains(tests, test) }) {
			return false
		}
	}
	return true
}

// choices returns all sets of numbers below n: the smallest ones first, those of a size in ascending order.
func choices(n int) [][]int {
	list := [][]int{nil}
	for number := range n {
		// The range is over the sets without the number alone, not over those that are added meanwhile.
		for _, set := range list {
			list = append(list, append(slices.Clone(set), number))
		}
	}
	slices.SortFunc(list, func(a, b []int) int {
		return cmp.Or(cmp.Compare(len(a), len(b)), slices.Compare(a, b))
	})
	return list
}
