package kit_test

import (
	"math"
	"slices"
	"testing"

	"tinker/api"
	"tinker/kit"
)

func TestFirstError(t *testing.T) {
	for _, x := range []struct {
		codes []api.Errno
		want  api.Errno
	}{
		{nil, api.OK},
		{[]api.Errno{api.OK, api.OK}, api.OK},
		{[]api.Errno{api.OK, api.ErrTwice, api.ErrArg}, api.ErrTwice},
		{[]api.Errno{api.ErrBroken, api.OK}, api.ErrBroken},
	} {
		if e := kit.FirstError(x.codes...); e != x.want {
			t.Error("R1:", x.codes, e)
		}
	}
}

func TestIsSet(t *testing.T) {
	for _, set := range [][]int{nil, {7}, {-3, 0, 2}, {math.MinInt, math.MaxInt}} {
		if !kit.IsSet(set) {
			t.Error("a set:", set)
		}
	}
	for _, list := range [][]int{{1, 1}, {2, 1}, {0, 1, 1}, {0, 2, 1}, {1, 0, 2}, {math.MaxInt, math.MinInt}} {
		if kit.IsSet(list) {
			t.Error("no set:", list)
		}
	}
}

func TestIsOrder(t *testing.T) {
	for _, order := range [][]int{nil, {0}, {1, 0}, {0, 1}, {2, 0, 1}} {
		before := slices.Clone(order)
		if !kit.IsOrder(order, len(order)) || !slices.Equal(order, before) {
			t.Error("an order:", before, order)
		}
	}
	for _, list := range [][]int{nil, {0}, {0, 1, 2}, {0, 0}, {1, 1}, {1, 2}, {-1, 0}, {0, 2}, {math.MinInt, math.MaxInt}} {
		if kit.IsOrder(list, 2) {
			t.Error("no order of 2:", list)
		}
	}
	if kit.IsOrder([]int{0}, 0) {
		t.Error("no order of none")
	}
}

func TestBetween(t *testing.T) {
	for n, want := range map[int]bool{math.MinInt: false, -3: false, -2: true, 0: true, 4: true, 5: false, math.MaxInt: false} {
		if kit.IsBetween(n, -2, 4) != want || kit.AreBetween([]int{0, n, 1}, -2, 4) != want {
			t.Error("R7: from -2 to 4:", n)
		}
	}
	if !kit.AreBetween(nil, 1, 0) {
		t.Error("all numbers of none are")
	}
	for n, want := range map[int]bool{math.MinInt: false, -1: false, 0: true, 3: true, 4: false, math.MaxInt: false} {
		if kit.IsRegister(n) != want {
			t.Error("a register:", n)
		}
	}
	for n, want := range map[int]bool{math.MinInt: false, -1000: false, -999: true, 999: true, 1000: false, math.MaxInt: false} {
		if kit.IsValue(n) != want {
			t.Error("a value:", n)
		}
	}
}

func TestCut(t *testing.T) {
	for n, want := range map[int]int{math.MinInt: -999, -1000: -999, -999: -999, -998: -998, 0: 0, 998: 998, 999: 999, 1000: 999, math.MaxInt: 999} {
		if got := kit.Cut(n); got != want {
			t.Error("the nearest value:", n, got)
		}
	}
}

func TestPlaces(t *testing.T) {
	if set := kit.Places([]bool{true, false, true, true, false}); !slices.Equal(set, []int{0, 2, 3}) {
		t.Error(set)
	}
	if set := kit.Places([]bool{false}); len(set) != 0 {
		t.Error(set)
	}
}

// TestFraction holds fractions against the numbers that they are made of.
func TestFraction(t *testing.T) {
	if f := kit.Fraction(6, 4); f != (api.Rat{Num: 3, Den: 2}) {
		t.Error(f)
	}
	for num := range 40 {
		for den := 1; den < 40; den++ {
			f := kit.Fraction(num, den)
			valid := f.Den > 0 && f.Num*den == f.Den*num
			for d := 2; d <= f.Den; d++ {
				valid = valid && (f.Num%d != 0 || f.Den%d != 0)
			}
			if !valid {
				t.Error(num, den, f)
			}
		}
	}
}
