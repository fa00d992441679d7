package blame

import (
	"tinker/api"
	"tinker/check"
	"tinker/code"
	"tinker/kit"
)

// validateTests returns the errors of a program and of its tests.
func validateTests(p []api.Line, l []api.Test) api.Errno {
	return kit.FirstError(code.Validate(p), check.ValidateTests(l))
}

// validateLines returns the errors of the lines of a valid program that are to be forced.
func validateLines(p []api.Line, lines []int) api.Errno {
	switch {
	case !kit.IsSet(lines):
		return api.ErrArg
	case !kit.AreBetween(lines, 0, len(p)-1):
		return api.ErrNone
	case len(lines) > api.MaxForced:
		return api.ErrLarge
	}
	for _, line := range lines {
		if _, writes, _ := code.Writes(p[line]); !writes {
			return api.ErrRule
		}
	}
	return api.OK
}

// failing returns the tests that a program fails.
func failing(p []api.Line, l []api.Test) []api.Test {
	var list []api.Test
	places, _ := check.Failing(p, l)
	for _, place := range places {
		list = append(list, l[place])
	}
	return list
}

// Slices returns the slices of the failing tests.
func Slices(p []api.Line, l []api.Test) ([][]int, api.Errno) {
	if e := validateTests(p, l); e != api.OK {
		return nil, e
	}
	return slicesOf(p, l), api.OK
}

func slicesOf(p []api.Line, l []api.Test) [][]int {
	var f [][]int
	for _, t := range failing(p, l) {
		slice, _ := code.Slice(p, t.In, t.Out)
		f = append(f, slice)
	}
	return f
}

// Diagnoses returns the blocker of the slices.
func Diagnoses(p []api.Line, l []api.Test) ([][]int, api.Errno) {
	if e := validateTests(p, l); e != api.OK {
		return nil, e
	}
	return Blocker(slicesOf(p, l))
}

// CheckPass returns ErrProof if a program whose lines are forced to write the values fails a test.
func CheckPass(p []api.Line, t api.Test, lines, values []int) api.Errno {
	if e := validateTests(p, []api.Test{t}); e != api.OK {
		return e
	}
	end, e := code.Force(p, t.In, lines, values)
	if e != api.OK {
		return e
	}
	if end[t.Out] != t.Want {
		return api.ErrProof
	}
	return api.OK
}

// CanPass returns the first values by which a set of lines can pass a test; false if there are none.
func CanPass(p []api.Line, t api.Test, lines []int) ([]int, bool, api.Errno) {
	if e := validateTests(p, []api.Test{t}); e != api.OK {
		return nil, false, e
	}
	if e := validateLines(p, lines); e != api.OK {
		return nil, false, e
	}
	values, some := pick(p, t, lines)
	return values, some, api.OK
}

// pick tries values for the lines in ascending order.
func pick(p []api.Line, t api.Test, lines []int) ([]int, bool) {
	values := make([]int, len(lines))
	var passesFrom func(i int) bool
	passesFrom = func(i int) bool {
		if i == len(lines) {
			end, e := code.Force(p, t.In, lines, values)
			return e == api.OK && end[t.Out] == t.Want
		}
		for n := range 2*api.MaxPick + 1 {
			values[i] = n - api.MaxPick
			if passesFrom(i + 1) {
				return true
			}
		}
		return false
	}
	if !passesFrom(0) {
		return nil, false
	}
	return values, true
}

// IsToBlame reports whether a set of lines can pass each failing test.
func IsToBlame(p []api.Line, l []api.Test, lines []int) (bool, api.Errno) {
	if e := validateTests(p, l); e != api.OK {
		return false, e
	}
	if e := validateLines(p, lines); e != api.OK {
		return false, e
	}
	return canPassAll(p, failing(p, l), lines), api.OK
}

func canPassAll(p []api.Line, l []api.Test, lines []int) bool {
	for _, t := range l {
		if _, some := pick(p, t, lines); !some {
			return false
		}
	}
	return true
}

// Blamed returns all sets of size lines that are to blame.
func Blamed(p []api.Line, l []api.Test, size int) ([][]int, api.Errno) {
	if e := validateTests(p, l); e != api.OK {
		return nil, e
	}
	if !kit.IsBetween(size, 1, api.MaxForced) {
		return nil, api.ErrArg
	}
	wrong := failing(p, l)
	return family(find(func(m kit.Mask) bool {
		lines := m.Numbers()
		return len(lines) == size && validateLines(p, lines) == api.OK && canPassAll(p, wrong, lines)
	})), api.OK
}
