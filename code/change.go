package code

import (
	"slices"

	"tinker/api"
	"tinker/kit"
)

// Put returns the program with l in the place of the line at.
func Put(p []api.Line, at int, l api.Line) ([]api.Line, api.Errno) {
	if e := kit.FirstError(Validate(p), ValidateLine(l)); e != api.OK {
		return nil, e
	}
	if !hasLine(p, at) {
		return nil, api.ErrNone
	}
	q := slices.Clone(p)
	q[at] = l
	return q, api.OK
}

// Independent reports whether the order of two lines that follow each other does not matter.
func Independent(l, m api.Line) (bool, api.Errno) {
	if e := kit.FirstError(ValidateLine(l), ValidateLine(m)); e != api.OK {
		return false, e
	}
	return areIndependent(l, m), api.OK
}

func areIndependent(l, m api.Line) bool {
	return l.Op != api.Skip && m.Op != api.Skip && !disturbs(l, m) && !disturbs(m, l)
}

// disturbs reports whether l writes a register that m reads or writes.
func disturbs(l, m api.Line) bool {
	return writes(l) && (reads(m)[l.To] || writes(m) && m.To == l.To)
}

// CanExchange reports whether the lines at and at + 1 can be exchanged.
func CanExchange(p []api.Line, at int) (bool, api.Errno) {
	if e := validatePair(p, at); e != api.OK {
		return false, e
	}
	return canExchange(p, at), api.OK
}

// Exchange returns the program with the lines at and at + 1 exchanged.
func Exchange(p []api.Line, at int) ([]api.Line, api.Errno) {
	if e := validatePair(p, at); e != api.OK {
		return nil, e
	}
	if !canExchange(p, at) {
		return nil, api.ErrRule
	}
	q := slices.Clone(p)
	q[at], q[at+1] = p[at+1], p[at]
	return q, api.OK
}

// validatePair returns the errors of a program and of the places at and at + 1.
func validatePair(p []api.Line, at int) api.Errno {
	if e := Validate(p); e != api.OK {
		return e
	}
	if !kit.IsBetween(at, 0, len(p)-2) {
		return api.ErrNone
	}
	return api.OK
}

// canExchange refuses a pair into whose middle a Skip leads: it would leave out the other one of the two lines.
func canExchange(p []api.Line, at int) bool {
	for s, l := range p[:at] {
		if l.Op == api.Skip && s+1+l.To == at+1 {
			return false
		}
	}
	return areIndependent(p[at], p[at+1])
}

// Rename returns the program in which each register r has the number to[r].
// What a line's number means in the state to is just that: the new name of a register, or the number as it is.
func Rename(p []api.Line, to []int) ([]api.Line, api.Errno) {
	if e := kit.FirstError(Validate(p), validateNames(to)); e != api.OK {
		return nil, e
	}
	names := stateOf(to)
	table := operations()
	q := slices.Clone(p)
	for i, l := range p {
		op := table[l.Op]
		q[i] = api.Line{Op: l.Op, To: op.to.in(names, l.To), A: op.a.in(names, l.A), B: op.b.in(names, l.B)}
	}
	return q, api.OK
}

// Move returns the state whose register to[r] is the register r of in.
func Move(in []int, to []int) ([]int, api.Errno) {
	if e := kit.FirstError(ValidateState(in), validateNames(to)); e != api.OK {
		return nil, e
	}
	moved := make([]int, api.Registers)
	for r, n := range in {
		moved[to[r]] = n
	}
	return moved, api.OK
}

// validateNames returns ErrArg if a list does not have each register once.
func validateNames(to []int) api.Errno {
	if len(to) != api.Registers {
		return api.ErrArg
	}
	var has [api.Registers]bool
	for _, r := range to {
		if !isRegister.allows(r) || has[r] {
			return api.ErrArg
		}
		has[r] = true
	}
	return api.OK
}

// Join returns the lines of p and then those of q.
func Join(p, q []api.Line) ([]api.Line, api.Errno) {
	if e := kit.FirstError(Validate(p), Validate(q)); e != api.OK {
		return nil, e
	}
	if len(p)+len(q) > api.MaxLines {
		return nil, api.ErrLarge
	}
	return slices.Concat(p, q), api.OK
}
