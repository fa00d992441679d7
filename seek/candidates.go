package seek

import (
	"cmp"
	"slices"

	"tinker/api"
	"tinker/code"
	"tinker/kit"
)

// source is a kind of candidates: where they come from.
type source interface {
	kind() int // the number of the kind
}

type fromTemplates struct{}
type fromProgram struct{}
type fromAll struct{}

func (fromTemplates) kind() int { return 0 }
func (fromProgram) kind() int   { return 1 }
func (fromAll) kind() int       { return 2 }

// sources returns the sources of all kinds, in the order in which they are tried.
func sources() []source {
	return []source{fromTemplates{}, fromProgram{}, fromAll{}}
}

// sourceOf returns the source of a kind; false if there is none.
func sourceOf(kind int) (source, bool) {
	for _, s := range sources() {
		if s.kind() == kind {
			return s, true
		}
	}
	return nil, false
}

// Candidates returns the lines of a kind that may be put at a place.
func Candidates(p []api.Line, at, kind int) ([]api.Line, api.Errno) {
	if e := kit.FirstError(code.Validate(p), validatePlace(p, at), validateKind(kind)); e != api.OK {
		return nil, e
	}
	s, _ := sourceOf(kind)
	return candidates(p, at, s), api.OK
}

func candidates(p []api.Line, at int, s source) []api.Line {
	var list []api.Line
	switch s.(type) {
	case fromTemplates:
		list = templates(p[at])
	case fromProgram:
		list = slices.Clone(p)
	case fromAll:
		list = All()
	}
	return others(list, p[at])
}

// others returns the valid lines of a list that differ from l, in ascending order and each once. It uses up the list.
func others(list []api.Line, l api.Line) []api.Line {
	list = slices.DeleteFunc(list, func(m api.Line) bool { return m == l || code.ValidateLine(m) != api.OK })
	slices.SortFunc(list, compareLines)
	return slices.Compact(list)
}

// compareLines orders two lines field by field.
func compareLines(l, m api.Line) int {
	return cmp.Or(cmp.Compare(l.Op, m.Op), cmp.Compare(l.To, m.To), cmp.Compare(l.A, m.A), cmp.Compare(l.B, m.B))
}

// edits returns the edits with candidates at all places, in ascending order.
func edits(p []api.Line, s source) []api.Edit {
	var list []api.Edit
	for at := range p {
		for _, l := range candidates(p, at, s) {
			list = append(list, api.Edit{At: at, Line: l})
		}
	}
	return list
}

// All returns all lines in ascending order.
func All() []api.Line {
	var list []api.Line
	for op := api.None; op <= api.Skip; op++ {
		for to := range api.MaxLines + 1 {
			list = append(list, allOf(op, to)...)
		}
	}
	return list
}

// allOf returns all lines with an Op and a To, in ascending order.
func allOf(op, to int) []api.Line {
	var list []api.Line
	for a := -api.MaxConst; a <= api.MaxConst; a++ {
		for b := range api.Registers {
			l := api.Line{Op: op, To: to, A: a, B: b}
			if code.ValidateLine(l) == api.OK {
				list = append(list, l)
			}
		}
	}
	return list
}
