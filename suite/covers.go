package suite

import (
	"cmp"
	"slices"

	"tinker/api"
	"tinker/kit"
)

// Open returns the set of the goals that some row meets.
func Open(t [][]int) ([]int, api.Errno) {
	if e := Validate(t); e != api.OK {
		return nil, e
	}
	return tableOf(t).open().Numbers(), api.OK
}

// Met returns the set of the goals that some row of a set meets.
func Met(t [][]int, rows []int) ([]int, api.Errno) {
	if e := validateSet(t, rows); e != api.OK {
		return nil, e
	}
	return tableOf(t).met(kit.MaskOf(rows)).Numbers(), api.OK
}

// CheckCover returns ErrProof if a set of rows does not meet all open goals.
func CheckCover(t [][]int, rows []int) api.Errno {
	if e := validateSet(t, rows); e != api.OK {
		return e
	}
	if !tableOf(t).isCover(kit.MaskOf(rows)) {
		return api.ErrProof
	}
	return api.OK
}

// Cover returns the smallest cover, the first one of several.
func Cover(t [][]int) (cover []int, e api.Errno) {
	if e = Validate(t); e != api.OK {
		return nil, e
	}
	// The search always stops with a panic, since all rows together are a cover.
	defer func() {
		if rows, is := recover().(kit.Mask); is {
			cover = rows.Numbers()
		}
	}()
	s := tableOf(t)
	for size := range len(s) + 1 {
		s.seek(0, 0, size)
	}
	return nil, e
}

// seek goes through the sets that have some rows and, from the row next on, so many more, in ascending order.
// It stops with a panic at the first one that is a cover, whose value is this set.
func (s table) seek(rows kit.Mask, next, more int) {
	if more == 0 {
		if s.isCover(rows) {
			panic(rows)
		}
		return
	}
	for row := next; row < len(s); row++ {
		s.seek(rows.With(row), row+1, more-1)
	}
}

// Cheapest returns the cover with the smallest sum of costs, the first one of several, and this sum.
func Cheapest(t [][]int, costs []int) ([]int, int, api.Errno) {
	if e := Validate(t); e != api.OK {
		return nil, 0, e
	}
	if len(costs) != len(t) || !kit.AreBetween(costs, 1, api.MaxCost) {
		return nil, 0, api.ErrArg
	}
	// The covers are found in ascending order; so the first one of several is the least one.
	cheapest := slices.MinFunc(kit.Find(len(t), tableOf(t).isCover), func(a, b kit.Mask) int {
		return cmp.Compare(sum(costs, a), sum(costs, b))
	})
	return cheapest.Numbers(), sum(costs, cheapest), api.OK
}

// sum returns the sum of the costs of a set of rows.
func sum(costs []int, rows kit.Mask) int {
	sum := 0
	for _, row := range rows.Numbers() {
		sum += costs[row]
	}
	return sum
}

// Excluding returns the greatest set of open goals that exclude each other, the first one of several.
func Excluding(t [][]int) ([]int, api.Errno) {
	if e := Validate(t); e != api.OK {
		return nil, e
	}
	// The sets are found in ascending order; so the first one of several is the greatest one.
	greatest := slices.MaxFunc(kit.Find(goalsOf(t), tableOf(t).exclude), func(a, b kit.Mask) int {
		return cmp.Compare(a.Size(), b.Size())
	})
	return greatest.Numbers(), api.OK
}

// exclude reports whether goals are all open and exclude each other.
func (s table) exclude(goals kit.Mask) bool {
	meetsTwo := func(row kit.Mask) bool { return (row & goals).Size() > 1 }
	return goals.IsPart(s.open()) && !slices.ContainsFunc(s, meetsTwo)
}

// Essential returns the set of the rows that alone meet some goal.
func Essential(t [][]int) ([]int, api.Errno) {
	if e := Validate(t); e != api.OK {
		return nil, e
	}
	s := tableOf(t)
	essential := make([]bool, len(s))
	for row := range s {
		essential[row] = !s.isCover(s.rows().Without(row))
	}
	return kit.Places(essential), api.OK
}

// Needless returns the set of the rows that another one can stand for: it meets more, or the same and has a smaller number.
func Needless(t [][]int) ([]int, api.Errno) {
	if e := Validate(t); e != api.OK {
		return nil, e
	}
	s := tableOf(t)
	needless := make([]bool, len(s))
	for row := range s {
		needless[row] = s.isNeedless(row)
	}
	return kit.Places(needless), api.OK
}

func (s table) isNeedless(row int) bool {
	for other, goals := range s {
		if s[row].IsPart(goals) && (s[row] != goals || other < row) {
			return true
		}
	}
	return false
}

// Least returns what is left of a set of rows that meets all that the set does, if rows without which the rest meets it are left out, the last ones first.
func Least(t [][]int, rows []int) ([]int, api.Errno) {
	if e := validateSet(t, rows); e != api.OK {
		return nil, e
	}
	s, all := tableOf(t), kit.MaskOf(rows)
	least := all
	for _, row := range slices.Backward(rows) {
		if rest := least.Without(row); s.met(rest) == s.met(all) {
			least = rest
		}
	}
	return least.Numbers(), api.OK
}
