package kit_test

import (
	"slices"
	"testing"

	"tinker/kit"
	"tinker/sample"
)

// TestMask holds masks against the sets of which they are made.
func TestMask(t *testing.T) {
	for _, set := range sample.Sets(6) {
		m := kit.MaskOf(set)
		if !slices.Equal(m.Numbers(), set) || m.Size() != len(set) {
			t.Error(set, m.Numbers(), m.Size())
		}
		for n := range 6 {
			with, without := m.With(n), m.Without(n)
			if m.Has(n) != slices.Contains(set, n) || !with.Has(n) || without.Has(n) || with.Without(n) != without || m.Has(n) && with != m || !m.Has(n) && without != m {
				t.Error(set, n, with.Numbers(), without.Numbers())
			}
		}
	}
	if m := kit.Below(0); m != 0 {
		t.Error("below 0:", m.Numbers())
	}
	if m := kit.Below(10); !slices.Equal(m.Numbers(), []int{0, 1, 2, 3, 4, 5, 6, 7, 8, 9}) {
		t.Error("below 10:", m.Numbers())
	}
}

// TestTwoMasks holds what is said of two masks against their sets.
func TestTwoMasks(t *testing.T) {
	sets := sample.Sets(4)
	for _, a := range sets {
		for _, b := range sets {
			in := func(n int) bool { return slices.Contains(b, n) }
			out := func(n int) bool { return !in(n) }
			m, other := kit.MaskOf(a), kit.MaskOf(b)
			if m.IsPart(other) == slices.ContainsFunc(a, out) || m.IsApart(other) == slices.ContainsFunc(a, in) {
				t.Error(a, b, m.IsPart(other), m.IsApart(other))
			}
		}
	}
}

// TestFind: all sets come in ascending order; those for which is does not hold are left out.
func TestFind(t *testing.T) {
	for n := range 9 {
		for size := range n + 2 {
			want := slices.DeleteFunc(sample.Sets(n), func(set []int) bool { return len(set) == size })
			var got [][]int
			for _, m := range kit.Find(n, func(m kit.Mask) bool { return m.Size() != size }) {
				got = append(got, m.Numbers())
			}
			if !slices.EqualFunc(got, want, slices.Equal) {
				t.Error(n, size, got)
			}
		}
	}
}
