package check_test

import (
	"slices"
	"testing"

	"tinker/api"
	"tinker/check"
	"tinker/sample"
)

// box returns the states of a box in ascending order.
func box(c api.Contract) [][]int {
	var list [][]int
	for a := c.Low[0]; a <= c.High[0]; a++ {
		for b := c.Low[1]; b <= c.High[1]; b++ {
			for d := c.Low[2]; d <= c.High[2]; d++ {
				for e := c.Low[3]; e <= c.High[3]; e++ {
					list = append(list, []int{a, b, d, e})
				}
			}
		}
	}
	return list
}

// held is what the functions of P2.4 say of a program and a contract.
type held struct {
	box         int
	keeps       bool
	bad         int
	first       []int
	some        bool
	least, most int
}

// hold calls the functions of P2.4.
func hold(t *testing.T, p []api.Line, c api.Contract) held {
	t.Helper()
	var h held
	var codes [5]api.Errno
	h.box, codes[0] = check.Box(c)
	h.keeps, codes[1] = check.Keeps(p, c)
	h.bad, codes[2] = check.Bad(p, c)
	h.first, h.some, codes[3] = check.First(p, c)
	h.least, h.most, codes[4] = check.Extremes(p, c)
	if codes != [5]api.Errno{} {
		t.Fatal("P2.4:", p, c, codes)
	}
	return h
}

// expectHeld reports what is not as it is wanted.
func expectHeld(t *testing.T, what string, h, want held) {
	t.Helper()
	if h.box != want.box || h.keeps != want.keeps || h.bad != want.bad || h.least != want.least || h.most != want.most {
		t.Errorf("P2.4: %s: %v instead of %v", what, h, want)
	}
	if h.some != want.some || !slices.Equal(h.first, want.first) {
		t.Errorf("P2.4: %s: the first one is %v %v instead of %v", what, h.first, h.some, want.first)
	}
}

func TestContractExamples(t *testing.T) {
	low := api.Contract{Low: []int{-3, -999, 0, 998}, High: []int{-2, -999, 1, 999}, Out: 0, Min: -3, Max: -3}
	sum := []api.Line{{Op: api.Add, To: 0, A: 0, B: 3}}
	for _, x := range []struct {
		what string
		p    []api.Line
		c    api.Contract
		want held
	}{
		{"the document's example", sample.Six(), upTo(3, 0, 1, 1, 0, 0, 2), held{6, false, 2, []int{0, 0, 0, 2}, true, 0, 2}},
		{"one that is kept", sample.Six(), upTo(0, 6, 6, 1, 0, 0, 2), held{6, true, 0, nil, false, 6, 6}},
		{"all are bad: above", sample.Six(), upTo(0, 0, 5, 1, 0, 0, 2), held{6, false, 6, []int{0, 0, 0, 0}, true, 6, 6}},
		{"all are bad: below", sample.Six(), upTo(0, 7, 8, 1, 0, 0, 2), held{6, false, 6, []int{0, 0, 0, 0}, true, 6, 6}},
		{"one state", nil, upTo(0, 0, 0, 0, 0, 0, 0), held{1, true, 0, nil, false, 0, 0}},
		{"one bad state", nil, upTo(0, 1, 1, 0, 0, 0, 0), held{1, false, 1, []int{0, 0, 0, 0}, true, 0, 0}},
		{"the last one is bad", nil, upTo(0, 0, 398, 399, 0, 0, 0), held{400, false, 1, []int{399, 0, 0, 0}, true, 0, 399}},
		{"numbers below 0", nil, low, held{8, false, 4, []int{-2, -999, 0, 998}, true, -3, -2}},
		{"numbers that are cut", sum, upTo(0, 0, 999, 0, 0, 0, 9), held{10, true, 0, nil, false, 0, 9}},
	} {
		expectHeld(t, x.what, hold(t, x.p, x.c), x.want)
	}
}

func TestDifferExamples(t *testing.T) {
	two := []api.Line{{Op: api.Set, To: 0, A: 2}}
	for _, x := range []struct {
		what string
		p, q []api.Line
		c    api.Contract
		want []int
	}{
		{"the first state", sample.Six(), nil, upTo(0, 0, 0, 9, 0, 0, 0), []int{0, 0, 0, 0}},
		{"a register that both leave", sample.Six(), nil, upTo(1, 0, 0, 9, 9, 0, 0), nil},
		{"a later state", two, nil, api.Contract{Low: []int{2, 0, 0, 0}, High: []int{4, 1, 0, 0}}, []int{3, 0, 0, 0}},
		{"the same number, with none that is good", two, two, upTo(0, 9, 9, 9, 0, 0, 0), nil},
		{"other numbers, all good", two, nil, upTo(0, -999, 999, 2, 3, 0, 0), []int{0, 0, 0, 0}},
		{"no lines", nil, []api.Line{}, upTo(0, 0, 0, 9, 0, 0, 0), nil},
		{"the second one alone", nil, two, upTo(0, 0, 0, 0, 0, 5, 0), []int{0, 0, 0, 0}},
	} {
		in, some, e := check.Differ(x.p, x.q, x.c)
		if e != api.OK || some != (len(x.want) > 0) || !slices.Equal(in, x.want) {
			t.Errorf("P2.4: %s: %v %v %d", x.what, in, some, e)
		}
	}
}

// TestContractsOfRuns holds P2.4, with its consequences, against the runs of package code.
func TestContractsOfRuns(t *testing.T) {
	m := sample.New()
	kept, broken := 0, 0
	for range 600 {
		p, q, c := m.Program(), m.Program(), m.Contract()
		if m.Below(2) == 0 {
			c.Min = ends(t, p, c.Low, c.Out)
			c.Max = max(c.Min, c.Max)
		}
		states := box(c)
		want := held{box: len(states), keeps: true, least: 999, most: -999}
		var differ []int
		for _, in := range states {
			end := ends(t, p, in, c.Out)
			want.least, want.most = min(want.least, end), max(want.most, end)
			if end < c.Min || end > c.Max {
				want.bad++
			}
			if want.bad == 1 && !want.some {
				want.first, want.some, want.keeps = in, true, false
			}
			if differ == nil && end != ends(t, q, in, c.Out) {
				differ = in
			}
		}
		h := hold(t, p, c)
		expectHeld(t, "a program of many", h, want)
		inside := c.Min <= h.least && h.most <= c.Max
		if h.keeps != (h.bad == 0) || h.keeps == h.some || h.keeps != inside {
			t.Error("S2:", p, c, h)
		}
		in, some, e := check.Differ(p, q, c)
		if e != api.OK || some != (differ != nil) || !slices.Equal(in, differ) {
			t.Errorf("P2.4: Differ of %v and %v in %v: %v %v %d", p, q, c, in, some, e)
		}
		if h.keeps {
			kept++
		} else {
			broken++
		}
	}
	if kept < 100 || broken < 100 {
		t.Error("too few contracts of a kind:", kept, broken)
	}
}
