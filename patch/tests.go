package patch

import (
	"cmp"
	"slices"

	"tinker/api"
	"tinker/check"
)

// Fixes returns the set of the tests that fail before a patch and do not after it.
func Fixes(p []api.Line, x []api.Edit, l []api.Test) ([]int, api.Errno) {
	if e := validate(p, x, l); e != api.OK {
		return nil, e
	}
	return without(failing(p, l), failing(do(p, x), l)), api.OK
}

// Breaks returns the set of the tests that fail after a patch and do not before it.
func Breaks(p []api.Line, x []api.Edit, l []api.Test) ([]int, api.Errno) {
	if e := validate(p, x, l); e != api.OK {
		return nil, e
	}
	return without(failing(do(p, x), l), failing(p, l)), api.OK
}

// failing returns the set of the tests that a program fails, where both are valid.
func failing(p []api.Line, l []api.Test) []int {
	set, _ := check.Failing(p, l)
	return set
}

// without returns the numbers of a set that another one does not have.
func without(set, other []int) []int {
	return slices.DeleteFunc(slices.Clone(set), func(n int) bool { return slices.Contains(other, n) })
}

// IsGood reports whether a program passes all tests after a patch.
func IsGood(p []api.Line, x []api.Edit, l []api.Test) (bool, api.Errno) {
	if e := validate(p, x, l); e != api.OK {
		return false, e
	}
	return isGood(p, x, l), api.OK
}

func isGood(p []api.Line, x []api.Edit, l []api.Test) bool {
	return len(failing(do(p, x), l)) == 0
}

// IsMinimal reports whether a patch is good and no proper part of it is.
func IsMinimal(p []api.Line, x []api.Edit, l []api.Test) (bool, api.Errno) {
	if e := validate(p, x, l); e != api.OK {
		return false, e
	}
	// Only the patch itself is a part with as many edits.
	part, some := smallest(p, x, l)
	return some && len(part) == len(x), api.OK
}

// Reduce leaves out edits that a good patch does not need, the last ones first: ErrRule if it is not good.
func Reduce(p []api.Line, x []api.Edit, l []api.Test) ([]api.Edit, api.Errno) {
	if e := validate(p, x, l); e != api.OK {
		return nil, e
	}
	if !isGood(p, x, l) {
		return nil, api.ErrRule
	}
	kept := slices.Clone(x)
	// What is left out lies behind the edit i; so this has the same number in kept as in x.
	for i := range slices.Backward(x) {
		rest := slices.Concat(kept[:i], kept[i+1:])
		if isGood(p, rest, l) {
			kept = rest
		}
	}
	return kept, api.OK
}

// Smallest returns the good part with the fewest edits; false if no part is good.
func Smallest(p []api.Line, x []api.Edit, l []api.Test) ([]api.Edit, bool, api.Errno) {
	if e := validate(p, x, l); e != api.OK {
		return nil, false, e
	}
	part, some := smallest(p, x, l)
	return part, some, api.OK
}

func smallest(p []api.Line, x []api.Edit, l []api.Test) ([]api.Edit, bool) {
	for _, part := range parts(x) {
		if isGood(p, part, l) {
			return part, true
		}
	}
	return nil, false
}

// parts returns all parts of a patch: those with fewer edits first, and of those with as many, the first ones by their places.
func parts(x []api.Edit) [][]api.Edit {
	list := [][]api.Edit{nil}
	for _, edit := range x {
		// The range is over the parts without the edit alone, not over those that are added meanwhile.
		for _, part := range list {
			list = append(list, append(slices.Clone(part), edit))
		}
	}
	slices.SortFunc(list, func(a, b []api.Edit) int {
		return cmp.Or(cmp.Compare(len(a), len(b)), slices.Compare(places(a), places(b)))
	})
	return list
}
