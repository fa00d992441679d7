package check

import (
	"cmp"
	"slices"

	"tinker/api"
	"tinker/kit"
)

// Scores returns how much the failing tests say against each line.
func Scores(p []api.Line, l []api.Test) ([]api.Rat, api.Errno) {
	if e := validateTests(p, l); e != api.OK {
		return nil, e
	}
	return scores(p, l), api.OK
}

// scores returns the scores of all lines.
func scores(p []api.Line, l []api.Test) []api.Rat {
	failing := 0
	inFailing, inPassing := make([]int, len(p)), make([]int, len(p))
	for _, t := range l {
		counts := inPassing
		if !passes(p, t) {
			counts = inFailing
			failing++
		}
		for line, done := range row(p, t) {
			counts[line] += done
		}
	}
	list := make([]api.Rat, len(p))
	for line := range list {
		// Without failing tests the score is 0 whatever it is divided by; but that must not be 0.
		list[line] = kit.Fraction(inFailing[line], max(1, failing+inPassing[line]))
	}
	return list
}

// compare orders two scores.
func compare(a, b api.Rat) int {
	return cmp.Compare(a.Num*b.Den, b.Num*a.Den)
}

// Suspects returns the set of the lines with the greatest score; it is empty if no test fails.
func Suspects(p []api.Line, l []api.Test) ([]int, api.Errno) {
	if e := validateTests(p, l); e != api.OK {
		return nil, e
	}
	list := scores(p, l)
	greatest := api.Rat{Num: 0, Den: 1}
	for _, score := range list {
		if compare(score, greatest) > 0 {
			greatest = score
		}
	}
	suspect := make([]bool, len(p))
	for line, score := range list {
		// The line 0 is done in each test; so the greatest score is 0 only if no test fails.
		suspect[line] = score == greatest && score.Num > 0
	}
	return kit.Places(suspect), api.OK
}

// Rank returns all lines in descending order of their scores, those with equal scores in ascending order.
func Rank(p []api.Line, l []api.Test) ([]int, api.Errno) {
	if e := validateTests(p, l); e != api.OK {
		return nil, e
	}
	list := scores(p, l)
	rank := make([]int, len(p))
	for line := range rank {
		rank[line] = line
	}
	slices.SortStableFunc(rank, func(a, b int) int { return compare(list[b], list[a]) })
	return rank, api.OK
}
