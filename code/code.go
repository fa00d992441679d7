// Package code runs programs, and tells on which of their lines a register depends.
package code

import "tinker/api"

// Validate returns ErrLarge if a program has too many lines, and ErrArg if one of them is not valid.
func Validate(p []api.Line) api.Errno {
	if len(p) > api.MaxLines {
		return api.ErrLarge
	}
	for _, l := range p {
		if !isLine(l) {
			return api.ErrArg
		}
	}
	return api.OK
}

// ValidateLine returns ErrArg if l is not a line.
func ValidateLine(l api.Line) api.Errno {
	if !isLine(l) {
		return api.ErrArg
	}
	return api.OK
}

// ValidateState returns ErrArg if in is not a state.
func ValidateState(in []int) api.Errno {
	if len(in) != api.Registers || !areBetween(in, -api.MaxValue, api.MaxValue) {
		return api.ErrArg
	}
	return api.OK
}

// firstError returns the first one of the codes that is an error, or OK if none is.
func firstError(codes ...api.Errno) api.Errno {
	for _, e := range codes {
		if e != api.OK {
			return e
		}
	}
	return api.OK
}

// hasLine reports whether p has a line with the number at.
func hasLine(p []api.Line, at int) bool {
	return isBetween(at, 0, len(p)-1)
}

// isSet reports whether the numbers are strictly ascending.
func isSet(numbers []int) bool {
	for i := 1; i < len(numbers); i++ {
		if numbers[i-1] >= numbers[i] {
			return false
		}
	}
	return true
}

// isBetween reports whether n is from low to high.
func isBetween(n, low, high int) bool {
	return low <= n && n <= high
}

// areBetween reports whether all numbers are from low to high.
func areBetween(numbers []int, low, high int) bool {
	for _, n := range numbers {
		if !isBetween(n, low, high) {
			return false
		}
	}
	return true
}

// places returns the set of the places of a list that are true.
func places(list []bool) []int {
	var set []int
	for i, is := range list {
		if is {
			set = append(set, i)
		}
	}
	return set
}
