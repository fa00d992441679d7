package story

import (
	"slices"

	"tinker/api"
	"tinker/kit"
	"tinker/patch"
)

// history is valid for the programs that its methods get.
type history [][]api.Edit

// first returns the first n repairs. Its capacity ends behind them, so that an append does not overwrite the repairs that follow.
func (h history) first(n int) history {
	return h[:n:n]
}

// without returns the history without the repair n; the history itself stays as it is.
func (h history) without(n int) history {
	return append(h.first(n), h[n+1:]...)
}

// play returns the program after the history.
func (h history) play(p []api.Line) []api.Line {
	q := slices.Clone(p)
	for _, x := range h {
		q, _ = patch.Do(q, x)
	}
	return q
}

// at returns the program after the first n repairs.
func (h history) at(p []api.Line, n int) []api.Line {
	return h.first(n).play(p)
}

// touches reports whether a repair has an edit at a place.
func touches(x []api.Edit, place int) bool {
	return slices.ContainsFunc(x, func(edit api.Edit) bool { return edit.At == place })
}

// meet reports whether two repairs touch a common place.
func meet(x, y []api.Edit) bool {
	return slices.ContainsFunc(x, func(edit api.Edit) bool { return touches(y, edit.At) })
}

// needs returns the set of the earlier repairs that a repair needs directly.
func (h history) needs(n int) []int {
	var set []int
	for m := range n {
		if meet(h[m], h[n]) {
			set = append(set, m)
		}
	}
	return set
}

// users returns the set of the later repairs that need a repair directly.
func (h history) users(n int) []int {
	var set []int
	for m := n + 1; m < len(h); m++ {
		if meet(h[m], h[n]) {
			set = append(set, m)
		}
	}
	return set
}

// reached returns the set of what is reached from a repair by one step or more.
func reached(n int, next func(n int) []int) []int {
	var is [api.MaxRepairs]bool
	var visit func(n int)
	visit = func(n int) {
		for _, m := range next(n) {
			if !is[m] {
				is[m] = true
				visit(m)
			}
		}
	}
	visit(n)
	return kit.Places(is[:])
}

// dependsOn reports whether a repair is in a set or needs one that is.
func (h history) dependsOn(n int, set []int) bool {
	inSet := func(m int) bool { return slices.Contains(set, m) }
	return inSet(n) || slices.ContainsFunc(reached(n, h.needs), inSet)
}
