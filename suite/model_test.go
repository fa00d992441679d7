package suite_test

import (
	"slices"

	"tinker/sample"
)

// same reports whether two lists of lists are equal.
func same(a, b [][]int) bool {
	return slices.EqualFunc(a, b, slices.Equal)
}

// modelNumbers returns the set of the numbers below n for which is holds.
func modelNumbers(n int, is func(k int) bool) []int {
	var set []int
	for k := range n {
		if is(k) {
			set = append(set, k)
		}
	}
	return set
}

func modelRows(s [][]int) []int {
	return modelNumbers(len(s), func(int) bool { return true })
}

// modelGoals is the number of goals.
func modelGoals(s [][]int) int {
	for _, row := range s {
		return len(row)
	}
	return 0
}

// modelMet returns the set of the goals that some row meets.
func modelMet(s [][]int, rows []int) []int {
	return modelNumbers(modelGoals(s), func(goal int) bool {
		return slices.ContainsFunc(rows, func(row int) bool { return s[row][goal] == 1 })
	})
}

func modelOpen(s [][]int) []int {
	return modelMet(s, modelRows(s))
}

// isPart reports whether all numbers of a are in b.
func isPart(a, b []int) bool {
	return !slices.ContainsFunc(a, func(n int) bool { return !slices.Contains(b, n) })
}

// modelCovers returns all covers, in ascending order.
func modelCovers(s [][]int) [][]int {
	return slices.DeleteFunc(sample.Sets(len(s)), func(rows []int) bool { return !slices.Equal(modelMet(s, rows), modelOpen(s)) })
}

// modelCheapest goes through all covers.
func modelCheapest(s [][]int, costs []int) ([]int, int) {
	var cheapest []int
	least, some := 0, false
	for _, cover := range modelCovers(s) {
		sum := 0
		for _, row := range cover {
			sum += costs[row]
		}
		if !some || sum < least {
			cheapest, least, some = cover, sum, true
		}
	}
	return cheapest, least
}

// modelExcluding goes through all sets of open goals, and looks at each two goals of one.
func modelExcluding(s [][]int) []int {
	var greatest []int
	for _, goals := range sample.Sets(modelGoals(s)) {
		if len(goals) > len(greatest) && isPart(goals, modelOpen(s)) && modelExclude(s, goals) {
			greatest = goals
		}
	}
	return greatest
}

func modelExclude(s [][]int, goals []int) bool {
	for i, goal := range goals {
		for _, other := range goals[:i] {
			if slices.ContainsFunc(s, func(row []int) bool { return row[goal] == 1 && row[other] == 1 }) {
				return false
			}
		}
	}
	return true
}

// modelEssential counts the rows that meet a goal.
func modelEssential(s [][]int) []int {
	return modelNumbers(len(s), func(row int) bool {
		for goal := range modelGoals(s) {
			meeting := modelNumbers(len(s), func(k int) bool { return s[k][goal] == 1 })
			if slices.Equal(meeting, []int{row}) {
				return true
			}
		}
		return false
	})
}

func modelNeedless(s [][]int) []int {
	return modelNumbers(len(s), func(row int) bool {
		goals := modelMet(s, []int{row})
		for other := range s {
			others := modelMet(s, []int{other})
			if more := len(others) > len(goals); other != row && isPart(goals, others) && (more || other < row) {
				return true
			}
		}
		return false
	})
}

func modelLeast(s [][]int, rows []int) []int {
	left := slices.Clone(rows)
	for row := len(s); row >= 0; row-- {
		rest := slices.DeleteFunc(slices.Clone(left), func(k int) bool { return k == row })
		if slices.Equal(modelMet(s, rest), modelMet(s, rows)) {
			left = rest
		}
	}
	return left
}

// modelWait adds the places of the first rows.
func modelWait(s [][]int, order []int) int {
	wait := 0
	for _, goal := range modelOpen(s) {
		wait += 1 + slices.IndexFunc(order, func(row int) bool { return s[row][goal] == 1 })
	}
	return wait
}

func modelGreedy(s [][]int) []int {
	var order []int
	for range s {
		best, most := 0, -1
		for row := range s {
			meets := len(modelMet(s, append(slices.Clone(order), row)))
			if !slices.Contains(order, row) && meets > most {
				best, most = row, meets
			}
		}
		order = append(order, best)
	}
	return order
}

// modelBest goes through all orders of the rows, which are given in ascending order.
func modelBest(s [][]int, orders [][]int) ([]int, int) {
	best, least := orders[0], modelWait(s, orders[0])
	for _, order := range orders {
		if wait := modelWait(s, order); wait < least {
			best, least = order, wait
		}
	}
	return best, least
}

// makeSuite makes a suite of so many rows: some rows are equal, empty or parts of others, and some goals are open to none.
func makeSuite(m *sample.Maker, rows int) [][]int {
	goals, rare := m.Below(11), 1+m.Below(4)
	if m.Below(2) == 0 {
		goals, rare = 6+m.Below(5), 2+m.Below(2) // so that rows meet many goals, and share them
	}
	s := make([][]int, rows)
	for i := range s {
		s[i] = make([]int, goals)
		for goal := range s[i] {
			if m.Below(rare) == 0 {
				s[i][goal] = 1
			}
		}
		if i > 0 && goals > 0 && m.Below(6) == 0 {
			s[i] = slices.Clone(s[m.Below(i)])
			s[i][m.Below(goals)] = m.Below(2)
		}
	}
	return s
}

// makeOrder makes an order of so many rows.
func makeOrder(m *sample.Maker, rows int) []int {
	var order []int
	for row := range rows {
		order = slices.Insert(order, m.Below(row+1), row)
	}
	return order
}
