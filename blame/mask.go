package blame

import (
	"math/bits"

	"tinker/api"
)

// mask is a set of numbers from 0 to MaxLines - 1: n is in it if its bit n is 1.
type mask uint

// all is the set of all these numbers.
const all mask = 1<<api.MaxLines - 1

// maskOf returns a valid set as a mask.
func maskOf(set []int) mask {
	var m mask
	for _, n := range set {
		m = m.with(n)
	}
	return m
}

// masksOf returns the sets of a valid family.
func masksOf(f [][]int) []mask {
	list := make([]mask, len(f))
	for i, set := range f {
		list[i] = maskOf(set)
	}
	return list
}

// numbers returns the set as a list.
func (m mask) numbers() []int {
	var list []int
	for n := range api.MaxLines {
		if m.has(n) {
			list = append(list, n)
		}
	}
	return list
}

// family returns sets as a family.
func family(list []mask) [][]int {
	f := make([][]int, len(list))
	for i, m := range list {
		f[i] = m.numbers()
	}
	return f
}

func (m mask) has(n int) bool     { return m&(1<<n) != 0 }
func (m mask) with(n int) mask    { return m | 1<<n }
func (m mask) without(n int) mask { return m &^ (1 << n) }
func (m mask) size() int          { return bits.OnesCount(uint(m)) }

// isPart reports whether all numbers of m are in other.
func (m mask) isPart(other mask) bool {
	return m&^other == 0
}

// isApart reports whether m and other have no number in common.
func (m mask) isApart(other mask) bool {
	return m&other == 0
}

// find returns the sets for which is holds, in ascending order and each once.
func find(is func(m mask) bool) []mask {
	var found []mask
	var extend func(m mask, next int)
	extend = func(m mask, next int) {
		if is(m) {
			found = append(found, m)
		}
		for n := next; n < api.MaxLines; n++ {
			extend(m.with(n), n+1)
		}
	}
	extend(0, 0)
	return found
}
