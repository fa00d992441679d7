package seek

import (
	"slices"

	"tinker/api"
	"tinker/kit"
	"tinker/patch"
)

// Fixes returns the lines that, put at a place, make all tests pass.
func Fixes(p []api.Line, l []api.Test, at, kind int) ([]api.Line, api.Errno) {
	if e := kit.FirstError(validateTests(p, l), validatePlace(p, at), validateKind(kind), validateNeed(p, l)); e != api.OK {
		return nil, e
	}
	s, _ := sourceOf(kind)
	return fixes(p, l, at, s), api.OK
}

func fixes(p []api.Line, l []api.Test, at int, s source) []api.Line {
	return slices.DeleteFunc(candidates(p, at, s), func(m api.Line) bool {
		good, _ := patch.IsGood(p, []api.Edit{{At: at, Line: m}}, l)
		return !good
	})
}

// validateSearch returns the errors of a search at all places.
func validateSearch(p []api.Line, l []api.Test, kind int) api.Errno {
	return kit.FirstError(validateTests(p, l), validateKind(kind), validateNeed(p, l))
}

// Count returns the number of single repairs at all places.
func Count(p []api.Line, l []api.Test, kind int) (int, api.Errno) {
	if e := validateSearch(p, l, kind); e != api.OK {
		return 0, e
	}
	s, _ := sourceOf(kind)
	n := 0
	for at := range p {
		n += len(fixes(p, l, at, s))
	}
	return n, api.OK
}

// Places returns the set of the places that have single repairs.
func Places(p []api.Line, l []api.Test, kind int) ([]int, api.Errno) {
	if e := validateSearch(p, l, kind); e != api.OK {
		return nil, e
	}
	s, _ := sourceOf(kind)
	has := make([]bool, len(p))
	for at := range p {
		has[at] = len(fixes(p, l, at, s)) > 0
	}
	return kit.Places(has), api.OK
}

// Single returns the smallest repair of one edit; false if there is none.
func Single(p []api.Line, l []api.Test, kind int) (api.Edit, bool, api.Errno) {
	if e := validateSearch(p, l, kind); e != api.OK {
		return api.Edit{}, false, e
	}
	s, _ := sourceOf(kind)
	x, some := single(p, l, s)
	return x, some, api.OK
}

func single(p []api.Line, l []api.Test, s source) (api.Edit, bool) {
	return smallest(p, l, edits(p, s), func(x api.Edit) []api.Edit { return []api.Edit{x} })
}

// Double returns the smallest repair of two edits with templates; false if there is none.
func Double(p []api.Line, l []api.Test) ([]api.Edit, bool, api.Errno) {
	if e := kit.FirstError(validateTests(p, l), validateNeed(p, l)); e != api.OK {
		return nil, false, e
	}
	x, some := double(p, l)
	return x, some, api.OK
}

func double(p []api.Line, l []api.Test) ([]api.Edit, bool) {
	x, some := smallest(p, l, pairs(edits(p, fromTemplates{})), func(x pair) []api.Edit { return x[:] })
	if !some {
		return nil, false
	}
	return x[:], true
}

// pair is two edits at different places, that at the smaller one first.
type pair [2]api.Edit

// pairs returns all pairs of edits at different places. If the edits are in ascending order, the pairs are too.
func pairs(list []api.Edit) []pair {
	var all []pair
	for i, x := range list {
		for _, y := range list[i+1:] {
			if x.At < y.At {
				all = append(all, pair{x, y})
			}
		}
	}
	return all
}

// smallest compares candidates by the sizes of their patches, and returns the smallest one that is good; false if none is.
// The candidates are in ascending order: so the first one of several is kept.
func smallest[T any](p []api.Line, l []api.Test, candidates []T, patchOf func(T) []api.Edit) (T, bool) {
	var best T
	least, some := 0, false
	for _, candidate := range candidates {
		x := patchOf(candidate)
		size, _ := patch.Size(p, x)
		if some && size >= least {
			continue
		}
		if good, _ := patch.IsGood(p, x, l); good {
			best, least, some = candidate, size, true
		}
	}
	return best, some
}

// Repair returns the first repair that is there of the singles by their kinds and the doubles, and which of these it is; false if there is none.
func Repair(p []api.Line, l []api.Test) ([]api.Edit, int, bool, api.Errno) {
	if e := kit.FirstError(validateTests(p, l), validateNeed(p, l)); e != api.OK {
		return nil, 0, false, e
	}
	for _, s := range sources() {
		if x, some := single(p, l, s); some {
			return []api.Edit{x}, s.kind(), true, api.OK
		}
	}
	if x, some := double(p, l); some {
		return x, len(sources()), true, api.OK
	}
	return nil, 0, false, api.OK
}
