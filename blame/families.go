package blame

import (
	"cmp"
	"slices"

	"tinker/api"
	"tinker/kit"
)

// Hits reports whether a set has a number in common with each set of a family.
func Hits(f [][]int, set []int) (bool, api.Errno) {
	if e := Validate(f); e != api.OK {
		return false, e
	}
	if !isValid(set) {
		return false, api.ErrArg
	}
	return hits(masksOf(f), kit.MaskOf(set)), api.OK
}

func hits(f []kit.Mask, m kit.Mask) bool {
	return !slices.ContainsFunc(f, m.IsApart)
}

// Blocker returns all sets that hit a family and of which no proper part does.
func Blocker(f [][]int) ([][]int, api.Errno) {
	if e := Validate(f); e != api.OK {
		return nil, e
	}
	return family(blocker(masksOf(f))), api.OK
}

func blocker(f []kit.Mask) []kit.Mask {
	return find(func(m kit.Mask) bool { return hits(f, m) && needsAll(f, m) })
}

// needsAll reports whether m does not hit a family any more without any one of its numbers.
// Then no proper part of m hits it, since each one lacks some number.
func needsAll(f []kit.Mask, m kit.Mask) bool {
	for _, n := range m.Numbers() {
		if hits(f, m.Without(n)) {
			return false
		}
	}
	return true
}

// CheckBlocker returns ErrProof if g is not the blocker of f.
func CheckBlocker(f, g [][]int) api.Errno {
	if e := kit.FirstError(Validate(f), Validate(g)); e != api.OK {
		return e
	}
	if !slices.Equal(masksOf(g), blocker(masksOf(f))) {
		return api.ErrProof
	}
	return api.OK
}

// Least returns the sets of a family of which no other different one is a part, each once.
func Least(f [][]int) ([][]int, api.Errno) {
	if e := Validate(f); e != api.OK {
		return nil, e
	}
	list := masksOf(f)
	return family(find(func(m kit.Mask) bool { return slices.Contains(list, m) && isLeast(list, m) })), api.OK
}

func isLeast(f []kit.Mask, m kit.Mask) bool {
	return !slices.ContainsFunc(f, func(other kit.Mask) bool { return other != m && other.IsPart(m) })
}

// Smallest returns the smallest size of a set that hits a family; false if none does.
func Smallest(f [][]int) (int, bool, api.Errno) {
	if e := Validate(f); e != api.OK {
		return 0, false, e
	}
	m, some := first(masksOf(f))
	return m.Size(), some, api.OK
}

// First returns the first one of the smallest sets that hit a family; false if none does.
func First(f [][]int) ([]int, bool, api.Errno) {
	if e := Validate(f); e != api.OK {
		return nil, false, e
	}
	m, some := first(masksOf(f))
	return m.Numbers(), some, api.OK
}

// first seeks in the blocker: no proper part of a smallest set hits the family.
func first(f []kit.Mask) (kit.Mask, bool) {
	list := blocker(f)
	if len(list) == 0 {
		return 0, false
	}
	return slices.MinFunc(list, func(a, b kit.Mask) int { return cmp.Compare(a.Size(), b.Size()) }), true
}

// Apart returns the greatest set of places of non-empty sets that are apart, the first one of several.
func Apart(f [][]int) ([]int, api.Errno) {
	if e := Validate(f); e != api.OK {
		return nil, e
	}
	return apart(masksOf(f)), api.OK
}

// chosen tells what matters of a choice among the sets before a place: the numbers that the taken ones use.
type chosen struct {
	place int
	used  kit.Mask
}

// apart takes a set whenever as many can be apart with it as without it: so the first choice of the greatest ones comes out.
func apart(f []kit.Mask) []int {
	most := mostAfter(f)
	var places []int
	var c chosen
	for c.place < len(f) {
		if c.canTake(f) && 1+most(c.take(f)) == most(c) {
			places = append(places, c.place)
			c = c.take(f)
		} else {
			c = c.pass()
		}
	}
	return places
}

// mostAfter returns a function that tells how many more sets can be taken after a choice.
func mostAfter(f []kit.Mask) func(c chosen) int {
	// Many choices use the same numbers; what can follow them is found once.
	known := map[chosen]int{}
	var most func(c chosen) int
	most = func(c chosen) int {
		if c.place == len(f) {
			return 0
		}
		if n, is := known[c]; is {
			return n
		}
		n := most(c.pass())
		if c.canTake(f) {
			n = max(n, 1+most(c.take(f)))
		}
		known[c] = n
		return n
	}
	return most
}

// canTake reports whether the set at the place may be taken too.
func (c chosen) canTake(f []kit.Mask) bool {
	m := f[c.place]
	return m != 0 && m.IsApart(c.used)
}

func (c chosen) take(f []kit.Mask) chosen { return chosen{c.place + 1, c.used | f[c.place]} }
func (c chosen) pass() chosen             { return chosen{c.place + 1, c.used} }

// Common returns the numbers that are in all sets.
func Common(f [][]int) ([]int, api.Errno) {
	if e := Validate(f); e != api.OK {
		return nil, e
	}
	common := kit.Below(api.MaxLines)
	for _, m := range masksOf(f) {
		common &= m
	}
	return common.Numbers(), api.OK
}

// Together returns the numbers that are in some set.
func Together(f [][]int) ([]int, api.Errno) {
	if e := Validate(f); e != api.OK {
		return nil, e
	}
	var together kit.Mask
	for _, m := range masksOf(f) {
		together |= m
	}
	return together.Numbers(), api.OK
}

// Without takes a number out of all sets.
func Without(f [][]int, number int) ([][]int, api.Errno) {
	if e := Validate(f); e != api.OK {
		return nil, e
	}
	if !kit.IsBetween(number, 0, api.MaxLines-1) {
		return nil, api.ErrArg
	}
	list := masksOf(f)
	for i, m := range list {
		list[i] = m.Without(number)
	}
	return family(list), api.OK
}
