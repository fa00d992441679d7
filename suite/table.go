package suite

import "tinker/kit"

// table is a valid suite: for each row, the goals that it meets.
type table []kit.Mask

func tableOf(t [][]int) table {
	s := make(table, len(t))
	for i, row := range t {
		for goal, n := range row {
			if n == 1 {
				s[i] = s[i].With(goal)
			}
		}
	}
	return s
}

// rows returns all rows.
func (s table) rows() kit.Mask {
	return kit.Below(len(s))
}

// met returns the goals that some row of a set meets.
func (s table) met(rows kit.Mask) kit.Mask {
	var met kit.Mask
	for row, goals := range s {
		if rows.Has(row) {
			met |= goals
		}
	}
	return met
}

// open returns the goals that some row meets.
func (s table) open() kit.Mask {
	return s.met(s.rows())
}

// left returns the open goals that no row of a set meets.
func (s table) left(rows kit.Mask) kit.Mask {
	return s.open() &^ s.met(rows)
}

func (s table) isCover(rows kit.Mask) bool {
	return s.left(rows) == 0
}
