package story_test

import (
	"slices"

	"tinker/api"
	"tinker/code"
)

// modelPrograms returns the program before a history and after each of its repairs.
func modelPrograms(p []api.Line, h [][]api.Edit) [][]api.Line {
	list := [][]api.Line{p}
	for _, x := range h {
		q := append([]api.Line{}, list[len(list)-1]...)
		for _, edit := range x {
			q[edit.At] = edit.Line
		}
		list = append(list, q)
	}
	return list
}

// modelEnd returns the program after a history.
func modelEnd(p []api.Line, h [][]api.Edit) []api.Line {
	return modelPrograms(p, h)[len(h)]
}

// table tells of each two repairs whether the first one needs the second one.
type table [api.MaxRepairs][api.MaxRepairs]bool

// modelDirect compares the places of the repairs.
func modelDirect(h [][]api.Edit) table {
	var direct table
	for n := range h {
		for m := range n {
			for at := range api.MaxLines {
				isAt := func(edit api.Edit) bool { return edit.At == at }
				if slices.ContainsFunc(h[m], isAt) && slices.ContainsFunc(h[n], isAt) {
					direct[n][m] = true
				}
			}
		}
	}
	return direct
}

// modelNeeds adds what is needed by way of other repairs, until nothing is added any more.
func modelNeeds(h [][]api.Edit) table {
	needs := modelDirect(h)
	for before := (table{}); before != needs; {
		before = needs
		for n := range h {
			for by := range h {
				for m := range h {
					needs[n][m] = needs[n][m] || before[n][by] && before[by][m]
				}
			}
		}
	}
	return needs
}

// row returns the set of the repairs that the repair n needs, column that of those that need it.
func (t table) row(n int) []int {
	return numbers(func(m int) bool { return t[n][m] })
}

func (t table) column(n int) []int {
	return numbers(func(m int) bool { return t[m][n] })
}

// numbers returns the set of the numbers below MaxRepairs for which is holds.
func numbers(is func(n int) bool) []int {
	var set []int
	for n := range api.MaxRepairs {
		if is(n) {
			set = append(set, n)
		}
	}
	return set
}

// modelKeeps looks at each two repairs of an order.
func modelKeeps(needs table, order []int) bool {
	for i, n := range order {
		for _, m := range order[i:] {
			if needs[n][m] {
				return false
			}
		}
	}
	return true
}

// modelRevert returns what is left of a history, as numbers and as repairs.
func modelRevert(h [][]api.Edit, set []int) ([]int, [][]api.Edit) {
	needs := modelNeeds(h)
	var left []int
	var rest [][]api.Edit
	for n, x := range h {
		if !slices.Contains(set, n) && !slices.ContainsFunc(set, func(m int) bool { return needs[n][m] }) {
			left = append(left, n)
			rest = append(rest, x)
		}
	}
	return left, rest
}

// modelPasses tells of the program before a history and of that after each of its repairs whether it passes a test.
func modelPasses(p []api.Line, h [][]api.Edit, t api.Test) []bool {
	var list []bool
	for _, q := range modelPrograms(p, h) {
		end, _ := code.Run(q, t.In)
		list = append(list, end[t.Out] == t.Want)
	}
	return list
}

// modelBisect seeks between two numbers of repairs.
func modelBisect(green []bool, from, to int) int {
	middle := (from + to) / 2
	switch {
	case to-from <= 1:
		return from
	case green[middle] == green[0]:
		return modelBisect(green, middle, to)
	}
	return modelBisect(green, from, middle)
}
