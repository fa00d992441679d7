package check

import (
	"iter"
	"slices"

	"tinker/api"
	"tinker/code"
	"tinker/kit"
)

// validateContract returns the errors of a program and of its contract.
func validateContract(p []api.Line, c api.Contract) api.Errno {
	return kit.FirstError(code.Validate(p), ValidateContract(c))
}

// state is an array, so that each one that the iterator gives out is a copy.
type state [api.Registers]int

// states goes through the states of the box of a valid contract, in ascending order.
func states(c api.Contract) iter.Seq[state] {
	return func(yield func(state) bool) {
		in := state(c.Low)
		for yield(in) {
			r := api.Registers - 1
			for r >= 0 && in[r] == c.High[r] {
				in[r] = c.Low[r]
				r--
			}
			if r < 0 {
				return
			}
			in[r]++
		}
	}
}

// find returns the first state of the box that is not good, in ascending order; false if there is none.
func find(c api.Contract, isGood func(in []int) bool) ([]int, bool) {
search:
	for in := range states(c) {
		if isGood(in[:]) {
			continue search
		}
		return slices.Clone(in[:]), true
	}
	return nil, false
}

// firstBad returns the first bad state; false if there is none.
func firstBad(p []api.Line, c api.Contract) ([]int, bool) {
	return find(c, func(in []int) bool { return isGood(p, c, in) })
}

// isGood reports whether a program ends as the contract says.
func isGood(p []api.Line, c api.Contract, in []int) bool {
	return kit.IsBetween(end(p, in, c.Out), c.Min, c.Max)
}

// Box returns the number of states of the box.
func Box(c api.Contract) (int, api.Errno) {
	if e := ValidateContract(c); e != api.OK {
		return 0, e
	}
	return size(c), api.OK
}

// Keeps reports whether a program keeps a contract.
func Keeps(p []api.Line, c api.Contract) (bool, api.Errno) {
	if e := validateContract(p, c); e != api.OK {
		return false, e
	}
	_, some := firstBad(p, c)
	return !some, api.OK
}

// Bad returns the number of bad states.
func Bad(p []api.Line, c api.Contract) (int, api.Errno) {
	if e := validateContract(p, c); e != api.OK {
		return 0, e
	}
	bad := 0
	for in := range states(c) {
		if !isGood(p, c, in[:]) {
			bad++
		}
	}
	return bad, api.OK
}

// First returns the first bad state in ascending order; false if there is none.
func First(p []api.Line, c api.Contract) ([]int, bool, api.Errno) {
	if e := validateContract(p, c); e != api.OK {
		return nil, false, e
	}
	in, some := firstBad(p, c)
	return in, some, api.OK
}

// Extremes returns the smallest and the greatest number that the register Out is at the end.
func Extremes(p []api.Line, c api.Contract) (int, int, api.Errno) {
	if e := validateContract(p, c); e != api.OK {
		return 0, 0, e
	}
	least, most := api.MaxValue, -api.MaxValue
	for in := range states(c) {
		n := end(p, in[:], c.Out)
		least, most = min(least, n), max(most, n)
	}
	return least, most, api.OK
}

// Differ returns the first state of the box from which two programs end with other numbers in Out; false if there is none.
func Differ(p, q []api.Line, c api.Contract) ([]int, bool, api.Errno) {
	if e := kit.FirstError(code.Validate(p), code.Validate(q), ValidateContract(c)); e != api.OK {
		return nil, false, e
	}
	in, some := find(c, func(in []int) bool { return end(p, in, c.Out) == end(q, in, c.Out) })
	return in, some, api.OK
}
