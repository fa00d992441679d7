// Package code runs programs, and tells on which of their lines a register depends.
package code

import (
	"tinker/api"
	"tinker/kit"
)

// Validate returns ErrLarge if a program has too many lines, and ErrArg if one of them is not valid.
func Validate(p []api.Line) api.Errno {
	if len(p) > api.MaxLines {
		return api.ErrLarge
	}
	for _, l := range p {
		if !isLine(l) {
			return api.ErrArg
		}
	}
	return api.OK
}

// ValidateLine returns ErrArg if l is not a line.
func ValidateLine(l api.Line) api.Errno {
	if !isLine(l) {
		return api.ErrArg
	}
	return api.OK
}

// ValidateState returns ErrArg if in is not a state.
func ValidateState(in []int) api.Errno {
	if len(in) != api.Registers || !kit.AreBetween(in, -api.MaxValue, api.MaxValue) {
		return api.ErrArg
	}
	return api.OK
}

// hasLine reports whether p has a line with the number at.
func hasLine(p []api.Line, at int) bool {
	return kit.IsBetween(at, 0, len(p)-1)
}
