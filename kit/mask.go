package kit

import "math/bits"

// Mask is a set of small numbers, from 0 on: n is in it if its bit n is 1.
type Mask uint

// MaskOf returns a set as a mask.
func MaskOf(set []int) Mask {
	var m Mask
	for _, n := range set {
		m = m.With(n)
	}
	return m
}

// Below returns the set of all numbers below n.
func Below(n int) Mask {
	return 1<<n - 1
}

// Numbers returns the set as a list.
func (m Mask) Numbers() []int {
	var list []int
	for n := range bits.Len(uint(m)) {
		if m.Has(n) {
			list = append(list, n)
		}
	}
	return list
}

func (m Mask) Has(n int) bool     { return m&(1<<n) != 0 }
func (m Mask) With(n int) Mask    { return m | 1<<n }
func (m Mask) Without(n int) Mask { return m &^ (1 << n) }
func (m Mask) Size() int          { return bits.OnesCount(uint(m)) }

// IsPart reports whether all numbers of m are in other.
func (m Mask) IsPart(other Mask) bool {
	return m&^other == 0
}

// IsApart reports whether m and other have no number in common.
func (m Mask) IsApart(other Mask) bool {
	return m&other == 0
}

// Find returns the sets of numbers below n for which is holds, in ascending order and each once.
func Find(n int, is func(m Mask) bool) []Mask {
	var found []Mask
	var extend func(m Mask, next int)
	extend = func(m Mask, next int) {
		if is(m) {
			found = append(found, m)
		}
		for k := next; k < n; k++ {
			extend(m.With(k), k+1)
		}
	}
	extend(0, 0)
	return found
}
