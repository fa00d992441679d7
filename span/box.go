package span

import "tinker/api"

// box is an array, so that changing one changes a copy.
type box [api.Registers]interval

// boxOf returns the box of a valid list.
func boxOf(b []api.Range) box {
	var all box
	for r, x := range b {
		all[r] = interval(x)
	}
	return all
}

// boxBetween returns the box of the states from low to high in each register.
func boxBetween(low, high []int) box {
	var all box
	for r := range all {
		all[r] = interval{low[r], high[r]}
	}
	return all
}

// ranges returns the box as a list.
func (b box) ranges() []api.Range {
	list := make([]api.Range, len(b))
	for r, x := range b {
		list[r] = api.Range(x)
	}
	return list
}

// with returns the box in which a register is in another interval.
func (b box) with(register int, x interval) box {
	b[register] = x
	return b
}

// joined returns the box in which each interval is joined with that of another box.
func (b box) joined(other box, join func(x, y interval) interval) box {
	for r, y := range other {
		b[r] = join(b[r], y)
	}
	return b
}

func (b box) has(in []int) bool {
	for r, x := range b {
		if !x.has(in[r]) {
			return false
		}
	}
	return true
}

func (b box) isEmpty() bool {
	for _, x := range b {
		if x.isEmpty() {
			return true
		}
	}
	return false
}

func (b box) isWithin(other box) bool {
	for r, x := range b {
		if !x.isWithin(other[r]) {
			return false
		}
	}
	return true
}

func (b box) size() int {
	sum := 0
	for _, x := range b {
		sum += x.width()
	}
	return sum
}
