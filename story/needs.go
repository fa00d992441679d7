package story

import (
	"tinker/api"
	"tinker/kit"
)

// validateNumber returns the errors of a program and of its history, and ErrNone if there is no repair n.
func validateNumber(p []api.Line, h [][]api.Edit, n int) api.Errno {
	if e := Validate(p, h); e != api.OK {
		return e
	}
	if !kit.IsBetween(n, 0, len(h)-1) {
		return api.ErrNone
	}
	return api.OK
}

// Direct returns the set of the earlier repairs that a repair needs directly.
func Direct(p []api.Line, h [][]api.Edit, n int) ([]int, api.Errno) {
	if e := validateNumber(p, h, n); e != api.OK {
		return nil, e
	}
	return history(h).needs(n), api.OK
}

// Needs returns the set of all repairs that a repair needs.
func Needs(p []api.Line, h [][]api.Edit, n int) ([]int, api.Errno) {
	if e := validateNumber(p, h, n); e != api.OK {
		return nil, e
	}
	return reached(n, history(h).needs), api.OK
}

// Needed returns the set of all later repairs that need a repair.
func Needed(p []api.Line, h [][]api.Edit, n int) ([]int, api.Errno) {
	if e := validateNumber(p, h, n); e != api.OK {
		return nil, e
	}
	return reached(n, history(h).users), api.OK
}
