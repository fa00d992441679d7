package seek

import (
	"slices"

	"tinker/api"
	"tinker/code"
	"tinker/kit"
)

// Templates returns the lines that are a small change of a line.
func Templates(l api.Line) ([]api.Line, api.Errno) {
	if e := code.ValidateLine(l); e != api.OK {
		return nil, e
	}
	return templates(l), api.OK
}

// Near reports whether m is a template of l.
func Near(l, m api.Line) (bool, api.Errno) {
	if e := kit.FirstError(code.ValidateLine(l), code.ValidateLine(m)); e != api.OK {
		return false, e
	}
	return isNear(l, m), api.OK
}

func isNear(l, m api.Line) bool {
	return slices.Contains(templates(l), m)
}

// templates returns the templates of a valid line in ascending order.
func templates(l api.Line) []api.Line {
	if l.Op == api.None {
		return nil
	}
	list := []api.Line{{Op: api.None}}
	list = append(list, otherNumbers(l)...)
	list = append(list, otherRegisters(l)...)
	list = append(list, otherOps(l)...)
	if readsTwo(l) {
		list = append(list, withB(withA(l, l.B), l.A))
	}
	// Some of these are no lines, or the line itself.
	return others(list, l)
}

// otherNumbers returns the line with its number, of what is set or skipped, one greater and one smaller.
func otherNumbers(l api.Line) []api.Line {
	switch l.Op {
	case api.Set:
		return []api.Line{withA(l, l.A-1), withA(l, l.A+1)}
	case api.Skip:
		return []api.Line{withTo(l, l.To-1), withTo(l, l.To+1)}
	}
	return nil
}

// otherRegisters returns the line with each register in the place of each of its registers.
func otherRegisters(l api.Line) []api.Line {
	var list []api.Line
	for r := range api.Registers {
		if l.Op != api.Skip {
			list = append(list, withTo(l, r))
		}
		if l.Op == api.Copy || readsTwo(l) {
			list = append(list, withA(l, r))
		}
		if readsTwo(l) {
			list = append(list, withB(l, r))
		}
	}
	return list
}

// otherOps returns the line with each Op that makes a number of two registers, if its own is one of these.
func otherOps(l api.Line) []api.Line {
	ops := []int{api.Add, api.Subtract, api.Least, api.Greatest}
	if !slices.Contains(ops, l.Op) {
		return nil
	}
	var list []api.Line
	for _, op := range ops {
		list = append(list, api.Line{Op: op, To: l.To, A: l.A, B: l.B})
	}
	return list
}

// readsTwo reports whether A and B of a line are registers, be they two or the same.
func readsTwo(l api.Line) bool {
	switch l.Op {
	case api.Add, api.Subtract, api.Least, api.Greatest, api.Skip:
		return true
	}
	return false
}

func withTo(l api.Line, n int) api.Line {
	l.To = n
	return l
}

func withA(l api.Line, n int) api.Line {
	l.A = n
	return l
}

func withB(l api.Line, n int) api.Line {
	l.B = n
	return l
}
