package code

import (
	"slices"

	"tinker/api"
	"tinker/kit"
)

// state has the number of each register. It is an array, so that keeping one keeps a copy.
type state [api.Registers]int

// stateOf returns the state of a valid list.
func stateOf(in []int) state {
	var s state
	copy(s[:], in)
	return s
}

// course tells what happens when a program runs.
type course struct {
	end    state
	done   [api.MaxLines]bool
	before [api.MaxLines]state // has a meaning for lines that are done
}

// forced tells which lines write a given value, and which one.
type forced struct {
	is    [api.MaxLines]bool
	value [api.MaxLines]int
}

// follow runs a valid program from a state.
func follow(p []api.Line, in state, f forced) course {
	table := operations()
	c := course{end: in}
	for at := 0; at < len(p); at++ {
		c.done[at], c.before[at] = true, c.end
		l := p[at]
		op := table[l.Op]
		a, b := op.a.in(c.end, l.A), op.b.in(c.end, l.B)
		if f.is[at] {
			c.end[l.To] = f.value[at]
		} else if op.to == isRegister {
			c.end[l.To] = kit.Cut(op.result(a, b))
		}
		if op.skips(a, b) {
			at += l.To
		}
	}
	return c
}

// validateRun returns the errors of a program and of a state to run it from.
func validateRun(p []api.Line, in []int) api.Errno {
	return kit.FirstError(Validate(p), ValidateState(in))
}

// Run returns the state at the end.
func Run(p []api.Line, in []int) ([]int, api.Errno) {
	if e := validateRun(p, in); e != api.OK {
		return nil, e
	}
	c := follow(p, stateOf(in), forced{})
	return slices.Clone(c.end[:]), api.OK
}

// Done returns the set of the lines that are done.
func Done(p []api.Line, in []int) ([]int, api.Errno) {
	if e := validateRun(p, in); e != api.OK {
		return nil, e
	}
	c := follow(p, stateOf(in), forced{})
	return kit.Places(c.done[:]), api.OK
}

// Before returns the state before a line is done; false if it is not done.
func Before(p []api.Line, in []int, line int) ([]int, bool, api.Errno) {
	if e := validateRun(p, in); e != api.OK {
		return nil, false, e
	}
	if !hasLine(p, line) {
		return nil, false, api.ErrNone
	}
	c := follow(p, stateOf(in), forced{})
	if !c.done[line] {
		return nil, false, api.OK
	}
	return slices.Clone(c.before[line][:]), true, api.OK
}

// Force runs a program in which each of the lines, if it is done, writes its value.
func Force(p []api.Line, in []int, lines, values []int) ([]int, api.Errno) {
	if e := validateRun(p, in); e != api.OK {
		return nil, e
	}
	if e := validateForced(p, lines, values); e != api.OK {
		return nil, e
	}
	var f forced
	for i, line := range lines {
		f.is[line], f.value[line] = true, values[i]
	}
	c := follow(p, stateOf(in), f)
	return slices.Clone(c.end[:]), api.OK
}

// validateForced returns the errors of the lines of a valid program to force, and of their values.
func validateForced(p []api.Line, lines, values []int) api.Errno {
	switch {
	case !kit.IsSet(lines):
		return api.ErrArg
	case !kit.AreBetween(lines, 0, len(p)-1):
		return api.ErrNone
	case len(lines) != len(values):
		return api.ErrFit
	case !kit.AreBetween(values, -api.MaxValue, api.MaxValue):
		return api.ErrArg
	}
	for _, line := range lines {
		if !writes(p[line]) {
			return api.ErrRule
		}
	}
	return api.OK
}
