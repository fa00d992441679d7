package suite

import (
	"math"

	"tinker/api"
	"tinker/kit"
)

// Wait returns the wait of an order.
func Wait(t [][]int, order []int) (int, api.Errno) {
	if e := validateOrder(t, order); e != api.OK {
		return 0, e
	}
	return tableOf(t).wait(order), api.OK
}

// wait adds one, at each place, for each goal that no row before this place meets: in all, a goal counts as often as the place of its first row says.
func (s table) wait(order []int) int {
	wait := 0
	var done kit.Mask
	for _, row := range order {
		wait += s.left(done).Size()
		done = done.With(row)
	}
	return wait
}

// Share returns which part the wait of an order is of what it would be if each open goal came with the last row: ErrNone if no goal is open.
func Share(t [][]int, order []int) (api.Rat, api.Errno) {
	if e := validateOrder(t, order); e != api.OK {
		return api.Rat{}, e
	}
	s := tableOf(t)
	if s.open() == 0 {
		return api.Rat{}, api.ErrNone
	}
	return kit.Fraction(s.wait(order), len(s)*s.open().Size()), api.OK
}

// Greedy returns the order in which each next row meets the most goals that are left.
func Greedy(t [][]int) ([]int, api.Errno) {
	if e := Validate(t); e != api.OK {
		return nil, e
	}
	s := tableOf(t)
	return s.order(func(done kit.Mask, row int) int { return (s[row] & s.left(done)).Size() }), api.OK
}

// Best returns the first order with the smallest wait, and this wait.
func Best(t [][]int) ([]int, int, api.Errno) {
	if e := Validate(t); e != api.OK {
		return nil, 0, e
	}
	s := tableOf(t)
	least := s.leastAfter()
	return s.order(func(done kit.Mask, row int) int { return -least(done.With(row)) }), least(0), api.OK
}

// leastAfter returns a function that tells the smallest wait that the rows behind those that are done can add.
func (s table) leastAfter() func(done kit.Mask) int {
	// Many orders begin with the same rows; what can follow them is found once.
	known := map[kit.Mask]int{}
	var least func(done kit.Mask) int
	least = func(done kit.Mask) int {
		left := s.left(done).Size()
		if left == 0 {
			return 0
		}
		if n, is := known[done]; is {
			return n
		}
		n := math.MaxInt
		for row := range s {
			if !done.Has(row) {
				n = min(n, left+least(done.With(row)))
			}
		}
		known[done] = n
		return n
	}
	return least
}

// order takes as each next row the one with the greatest rank behind those that are done.
func (s table) order(rank func(done kit.Mask, row int) int) []int {
	order := make([]int, len(s))
	var done kit.Mask
	for i := range order {
		order[i] = s.next(done, rank)
		done = done.With(order[i])
	}
	return order
}

// next returns the row with the greatest rank of those that are not done, the first one of several.
func (s table) next(done kit.Mask, rank func(done kit.Mask, row int) int) int {
	best, row := -1, 0
again:
	if row == len(s) {
		return best
	}
	if !done.Has(row) && (best < 0 || rank(done, row) > rank(done, best)) {
		best = row
	}
	row++
	goto again
}
