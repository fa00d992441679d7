package blame

import (
	"tinker/api"
	"tinker/kit"
)

// masksOf returns the sets of a valid family.
func masksOf(f [][]int) []kit.Mask {
	list := make([]kit.Mask, len(f))
	for i, set := range f {
		list[i] = kit.MaskOf(set)
	}
	return list
}

// family returns sets as a family.
func family(list []kit.Mask) [][]int {
	f := make([][]int, len(list))
	for i, m := range list {
		f[i] = m.Numbers()
	}
	return f
}

// find returns the sets of numbers of lines for which is holds, in ascending order and each once.
func find(is func(m kit.Mask) bool) []kit.Mask {
	return kit.Find(api.MaxLines, is)
}
