package seek_test

import (
	"slices"

	"tinker/api"
	"tinker/code"
	"tinker/sample"
)

// fields are the numbers of a line, in their order.
func fields(l api.Line) []int { return []int{l.Op, l.To, l.A, l.B} }

// allLines returns each line, in ascending order.
func allLines() []api.Line {
	list := sample.Lines()
	slices.SortFunc(list, func(l, m api.Line) int { return slices.Compare(fields(l), fields(m)) })
	return list
}

// lines are those of allLines, for the models, which go through them very often.
var lines = allLines()

// modelNear holds two valid lines against each other, and names what may differ.
func modelNear(l, m api.Line) bool {
	if l.Op == api.None || l == m {
		return false
	}
	if m.Op == api.None {
		return true
	}
	var differ []int
	for i, n := range fields(l) {
		if n != fields(m)[i] {
			differ = append(differ, i)
		}
	}
	isStep := func(n, o int) bool { return n == o+1 || n == o-1 }
	isOfTwo := func(l api.Line) bool { return l.Op >= api.Add && l.Op <= api.Greatest }
	switch {
	case slices.Equal(differ, []int{0}):
		return isOfTwo(l) && isOfTwo(m)
	case slices.Equal(differ, []int{1}):
		return l.Op != api.Skip || isStep(l.To, m.To)
	case slices.Equal(differ, []int{2}):
		return l.Op != api.Set || isStep(l.A, m.A)
	case slices.Equal(differ, []int{3}):
		return true
	case slices.Equal(differ, []int{2, 3}):
		return l.A == m.B && l.B == m.A
	}
	return false
}

// modelCandidates picks the candidates out of all lines.
func modelCandidates(p []api.Line, at, kind int) []api.Line {
	var list []api.Line
	for _, m := range lines {
		if m != p[at] && (kind == 2 || kind == 1 && slices.Contains(p, m) || kind == 0 && modelNear(p[at], m)) {
			list = append(list, m)
		}
	}
	return list
}

// modelEdits are the edits with the candidates of a kind.
func modelEdits(p []api.Line, kind int) []api.Edit {
	var list []api.Edit
	for at := range p {
		for _, l := range modelCandidates(p, at, kind) {
			list = append(list, api.Edit{At: at, Line: l})
		}
	}
	return list
}

// modelDo puts the lines of edits into a copy of a program.
func modelDo(p []api.Line, x ...api.Edit) []api.Line {
	q := append([]api.Line{}, p...)
	for _, edit := range x {
		q[edit.At] = edit.Line
	}
	return q
}

func modelPasses(p []api.Line, t api.Test) bool {
	end, _ := code.Run(p, t.In)
	return end[t.Out] == t.Want
}

func modelPassesAll(p []api.Line, l []api.Test) bool {
	return !slices.ContainsFunc(l, func(t api.Test) bool { return !modelPasses(p, t) })
}

// modelSize counts the fields that edits change.
func modelSize(p []api.Line, x ...api.Edit) int {
	size := 0
	for _, edit := range x {
		for i, n := range fields(p[edit.At]) {
			if n != fields(edit.Line)[i] {
				size++
			}
		}
	}
	return size
}

// modelBest puts the good patches in order, the size before all else, and returns the first one.
func modelBest(p []api.Line, l []api.Test, patches [][]api.Edit) ([]api.Edit, bool) {
	var good [][]api.Edit
	for _, x := range patches {
		if modelPassesAll(modelDo(p, x...), l) {
			good = append(good, x)
		}
	}
	key := func(x []api.Edit) []int {
		list := []int{modelSize(p, x...)}
		for _, edit := range x {
			list = append(append(list, edit.At), fields(edit.Line)...)
		}
		return list
	}
	if len(good) == 0 {
		return nil, false
	}
	return slices.MinFunc(good, func(x, y []api.Edit) int { return slices.Compare(key(x), key(y)) }), true
}

// modelSingle is the best one of all patches of one edit.
func modelSingle(p []api.Line, l []api.Test, kind int) ([]api.Edit, bool) {
	var patches [][]api.Edit
	for _, x := range modelEdits(p, kind) {
		patches = append(patches, []api.Edit{x})
	}
	return modelBest(p, l, patches)
}

// modelDouble is the best one of all patches of two edits, by the places.
func modelDouble(p []api.Line, l []api.Test) ([]api.Edit, bool) {
	var patches [][]api.Edit
	list := modelEdits(p, 0)
	for _, y := range list {
		for _, x := range list {
			if x.At < y.At {
				patches = append(patches, []api.Edit{x, y})
			}
		}
	}
	return modelBest(p, l, patches)
}

// modelRepair tries the kinds from 0 to 3.
func modelRepair(p []api.Line, l []api.Test) ([]api.Edit, int, bool) {
	for kind := range 3 {
		if x, some := modelSingle(p, l, kind); some {
			return x, kind, true
		}
	}
	if x, some := modelDouble(p, l); some {
		return x, 3, true
	}
	return nil, 0, false
}

// modelKills runs each test before and after the mutant is put in.
func modelKills(p []api.Line, l []api.Test, m api.Edit) []int {
	var set []int
	for i, t := range l {
		if modelPasses(p, t) && !modelPasses(modelDo(p, m), t) {
			set = append(set, i)
		}
	}
	return set
}

// modelEnough goes through all sets of tests, as bits, and keeps the best one that kills what can be killed.
func modelEnough(p []api.Line, l []api.Test) []int {
	var killers [][]int
	for _, m := range modelEdits(p, 0) {
		if set := modelKills(p, l, m); len(set) > 0 {
			killers = append(killers, set)
		}
	}
	var best []int
	some := false
	for choice := range 1 << len(l) {
		var set []int
		for i := range l {
			if choice>>i&1 == 1 {
				set = append(set, i)
			}
		}
		misses := func(killer []int) bool {
			return !slices.ContainsFunc(killer, func(i int) bool { return choice>>i&1 == 1 })
		}
		isBetter := !some || len(set) < len(best) || len(set) == len(best) && slices.Compare(set, best) < 0
		if isBetter && !slices.ContainsFunc(killers, misses) {
			best, some = set, true
		}
	}
	return best
}
