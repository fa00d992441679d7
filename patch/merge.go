package patch

import (
	"tinker/api"
	"tinker/code"
	"tinker/kit"
)

// edits are the lines of edits by their places. A place may have one line only; so that of a later edit counts.
type edits map[int]api.Line

// editsOf returns the edits of patches, one after another.
func editsOf(patches ...[]api.Edit) edits {
	all := edits{}
	for _, x := range patches {
		for _, edit := range x {
			all[edit.At] = edit.Line
		}
	}
	return all
}

// patch returns the edits in ascending order of their places.
func (all edits) patch() []api.Edit {
	var x []api.Edit
	for at := range api.MaxLines {
		if l, has := all[at]; has {
			x = append(x, api.Edit{At: at, Line: l})
		}
	}
	return x
}

// Then returns the patch that does what x and then y does.
func Then(x, y []api.Edit) ([]api.Edit, api.Errno) {
	if e := kit.FirstError(Validate(x), Validate(y)); e != api.OK {
		return nil, e
	}
	return then(x, y)
}

func then(x, y []api.Edit) ([]api.Edit, api.Errno) {
	both := editsOf(x, y)
	if len(both) > api.MaxEdits {
		return nil, api.ErrLarge
	}
	return both.patch(), api.OK
}

// Merge returns the edits of two patches that agree where they meet.
func Merge(x, y []api.Edit) ([]api.Edit, api.Errno) {
	if e := kit.FirstError(Validate(x), Validate(y)); e != api.OK {
		return nil, e
	}
	first := editsOf(x)
	for _, edit := range y {
		if l, has := first[edit.At]; has && l != edit.Line {
			return nil, api.ErrTwice
		}
	}
	return then(x, y)
}

// Keep returns the part of a patch with the edits at the places of a set.
func Keep(x []api.Edit, places []int) ([]api.Edit, api.Errno) {
	if e := Validate(x); e != api.OK {
		return nil, e
	}
	if !kit.IsSet(places) || !kit.AreBetween(places, 0, api.MaxLines-1) {
		return nil, api.ErrArg
	}
	all, kept := editsOf(x), edits{}
	for _, at := range places {
		if l, has := all[at]; has {
			kept[at] = l
		}
	}
	return kept.patch(), api.OK
}

// Three merges two programs that were made from a base, and returns the set of the lines that both changed in other ways.
func Three(base, a, b []api.Line) ([]api.Line, []int, api.Errno) {
	if e := kit.FirstError(code.Validate(base), code.Validate(a), code.Validate(b)); e != api.OK {
		return nil, nil, e
	}
	if len(a) != len(base) || len(b) != len(base) {
		return nil, nil, api.ErrFit
	}
	merged := make([]api.Line, len(base))
	conflict := make([]bool, len(base))
	for at, l := range base {
		merged[at], conflict[at] = mergeLine(l, a[at], b[at])
	}
	return merged, kit.Places(conflict), api.OK
}

// mergeLine returns what becomes of a line, and whether a and b are in conflict about it.
func mergeLine(base, a, b api.Line) (api.Line, bool) {
	switch {
	case b == base:
		return a, false
	case a == base || a == b:
		return b, false
	}
	return base, true
}
