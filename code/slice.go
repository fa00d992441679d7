package code

import (
	"slices"

	"tinker/api"
	"tinker/kit"
)

// Reads returns the set of the registers that a line reads.
func Reads(l api.Line) ([]int, api.Errno) {
	if e := ValidateLine(l); e != api.OK {
		return nil, e
	}
	read := reads(l)
	return kit.Places(read[:]), api.OK
}

// Writes returns the register that a line writes; false if it writes none.
func Writes(l api.Line) (int, bool, api.Errno) {
	if e := ValidateLine(l); e != api.OK || !writes(l) {
		return 0, false, e
	}
	return l.To, true, api.OK
}

// Slice returns the set of the lines on which a register depends at the end.
func Slice(p []api.Line, in []int, register int) ([]int, api.Errno) {
	if e := validateRun(p, in); e != api.OK {
		return nil, e
	}
	if !isRegister.allows(register) {
		return nil, api.ErrArg
	}
	c := follow(p, stateOf(in), forced{})
	var matter [api.Registers]bool
	matter[register] = true
	var slice [api.MaxLines]bool
	for at, l := range slices.Backward(p) {
		slice[at] = c.done[at] && (l.Op == api.Skip || writes(l) && matter[l.To])
		if slice[at] {
			matter = matterBefore(l, matter)
		}
	}
	return kit.Places(slice[:]), api.OK
}

// matterBefore returns the registers that matter before a line of the slice, from those that do after it.
func matterBefore(l api.Line, matter [api.Registers]bool) [api.Registers]bool {
	if writes(l) {
		matter[l.To] = false
	}
	for register, is := range reads(l) {
		if is {
			matter[register] = true
		}
	}
	return matter
}
