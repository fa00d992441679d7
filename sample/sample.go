// Package sample makes the programs, states, tests, contracts, sets and orders that the tests of the layers try, and spoils their results; no layer uses it.
package sample

import (
	"slices"

	"tinker/api"
	"tinker/code"
)

// Six is a program that makes 6 of the register 0.
func Six() []api.Line {
	return []api.Line{{Op: api.Set, To: 0, A: 3}, {Op: api.Add, To: 0, A: 0, B: 0}}
}

// Zeros is the state of zeros.
func Zeros() []int {
	return make([]int, api.Registers)
}

// BadLine is no line.
func BadLine() api.Line {
	return api.Line{Op: api.Skip + 1}
}

// TooLong has more lines than a program may have.
func TooLong() []api.Line {
	return make([]api.Line, api.MaxLines+1)
}

// spoiled marks what Spoil has overwritten; no result that is given to it has this number.
const spoiled = 77

// Spoil overwrites a result and the room behind it. It returns false if that shows nothing, since the result is empty,
// or if the result was overwritten before: then it is shared.
func Spoil(list []int) bool {
	return SpoilWith(list, spoiled)
}

// SpoilWith is Spoil for results of any type; no result that is given to it has the mark.
func SpoilWith[T comparable](list []T, mark T) bool {
	if len(list) == 0 || slices.Contains(list, mark) {
		return false
	}
	list = list[:cap(list)]
	for i := range list {
		list[i] = mark
	}
	return true
}

// Sets returns all sets of numbers below n, in ascending order.
func Sets(n int) [][]int {
	list := [][]int{nil}
	for number := range n {
		// The range is over the sets without the number alone, not over those that are added meanwhile.
		for _, set := range list {
			list = append(list, append(slices.Clone(set), number))
		}
	}
	slices.SortFunc(list, slices.Compare)
	return list
}

// Orders returns all orders of the numbers below n, in ascending order.
func Orders(n int) [][]int {
	list := [][]int{nil}
	for range n {
		var longer [][]int
		for _, order := range list {
			for next := range n {
				if !slices.Contains(order, next) {
					longer = append(longer, append(slices.Clone(order), next))
				}
			}
		}
		list = longer
	}
	return list
}

// Lines returns each valid line.
func Lines() []api.Line {
	list := []api.Line{{}}
	for to := range api.Registers {
		for a := -api.MaxConst; a <= api.MaxConst; a++ {
			list = append(list, api.Line{Op: api.Set, To: to, A: a})
		}
		for a := range api.Registers {
			list = append(list, api.Line{Op: api.Copy, To: to, A: a})
			list = append(list, pairs(to, a)...)
		}
	}
	return list
}

// pairs returns the lines that read the register a and another one.
// A Skip has twice as many numbers To as there are registers; so each to stands for two of them.
func pairs(to, a int) []api.Line {
	var list []api.Line
	for b := range api.Registers {
		for _, op := range []int{api.Add, api.Subtract, api.Least, api.Greatest} {
			list = append(list, api.Line{Op: op, To: to, A: a, B: b})
		}
		for _, skipped := range []int{to + 1, to + 1 + api.Registers} {
			list = append(list, api.Line{Op: api.Skip, To: skipped, A: a, B: b})
		}
	}
	return list
}

// Maker makes things of many kinds, always in the same order.
type Maker struct {
	last  uint64
	lines [api.Skip + 1][]api.Line // by their Op
}

// New returns a maker.
func New() *Maker {
	m := &Maker{last: 1}
	for _, l := range Lines() {
		m.lines[l.Op] = append(m.lines[l.Op], l)
	}
	return m
}

// Below returns a number from 0 to n - 1.
func (m *Maker) Below(n int) int {
	m.last += 0x9e3779b97f4a7c15
	x := m.last
	x = (x ^ x>>30) * 0xbf58476d1ce4e5b9
	x = (x ^ x>>27) * 0x94d049bb133111eb
	return int((x ^ x>>31) % uint64(n))
}

// Line returns a line; each Op comes equally often.
func (m *Maker) Line() api.Line {
	list := m.lines[m.Below(len(m.lines))]
	return list[m.Below(len(list))]
}

// Program returns a program. Many Skips in it are short, since long ones lead behind the end.
func (m *Maker) Program() []api.Line {
	p := make([]api.Line, m.Below(api.MaxLines+1))
	for i := range p {
		p[i] = m.Line()
		if p[i].Op == api.Skip && m.Below(2) == 0 {
			p[i].To = 1 + m.Below(3)
		}
	}
	return p
}

// Change returns a program in which some lines are others. Some of these differ in one field alone, where that is valid.
func (m *Maker) Change(p []api.Line) []api.Line {
	q := slices.Clone(p)
	for i := range q {
		switch m.Below(3) {
		case 0:
			q[i] = m.Line()
		case 1:
			q[i].A = m.Below(api.Registers)
			if code.ValidateLine(q[i]) != api.OK {
				q[i] = p[i]
			}
		}
	}
	return q
}

// Patch returns a patch for a program; some of its edits change nothing.
func (m *Maker) Patch(p []api.Line) []api.Edit {
	var x []api.Edit
	left := m.Below(min(len(p), api.MaxEdits) + 1)
	for at, l := range m.Change(p) {
		if m.Below(len(p)-at) < left {
			x = append(x, api.Edit{At: at, Line: l})
			left--
		}
	}
	return x
}

// History returns a history of a program: each repair is a patch for what those before it make. Many have one edit alone, so that they need few others.
func (m *Maker) History(p []api.Line) [][]api.Edit {
	q := slices.Clone(p)
	h := make([][]api.Edit, m.Below(api.MaxRepairs+1))
	for n := range h {
		x := m.Patch(q)
		if len(x) > 0 && m.Below(4) > 0 {
			i := m.Below(len(x))
			x = x[i : i+1]
		}
		for _, edit := range x {
			q[edit.At] = edit.Line
		}
		h[n] = x
	}
	return h
}

// Number returns a number of a register: a small one, or one near the bounds.
func (m *Maker) Number() int {
	switch m.Below(4) {
	case 0:
		return api.MaxValue - m.Below(20)
	case 1:
		return m.Below(20) - api.MaxValue
	}
	return m.Below(9) - 4
}

// State returns a state.
func (m *Maker) State() []int {
	in := Zeros()
	for r := range in {
		in[r] = m.Number()
	}
	return in
}

// Test returns a test; the program passes about half of those that are made for it.
func (m *Maker) Test(p []api.Line) api.Test {
	t := api.Test{In: m.State(), Out: m.Below(api.Registers), Want: m.Number()}
	if m.Below(2) == 0 {
		end, _ := code.Run(p, t.In)
		t.Want = end[t.Out]
	}
	return t
}

// Tests returns tests for a program.
func (m *Maker) Tests(p []api.Line) []api.Test {
	l := make([]api.Test, m.Below(api.MaxTests+1))
	for i := range l {
		l[i] = m.Test(p)
	}
	return l
}

// Box returns a box, whose ranges are of one number, narrow or wide.
func (m *Maker) Box() []api.Range {
	b := make([]api.Range, api.Registers)
	for r := range b {
		wide := [...]int{1, 6, 2 * api.MaxValue}[m.Below(3)]
		low := m.Number()
		b[r] = api.Range{Low: low, High: min(low+m.Below(wide), api.MaxValue)}
	}
	return b
}

// In returns a state of a box; many of its numbers are bounds.
func (m *Maker) In(b []api.Range) []int {
	in := Zeros()
	for r, x := range b {
		in[r] = [...]int{x.Low, x.High, x.Low + m.Below(x.High-x.Low+1)}[m.Below(3)]
	}
	return in
}

// Part returns a box within a box.
func (m *Maker) Part(b []api.Range) []api.Range {
	part := make([]api.Range, len(b))
	low, high := m.In(b), m.In(b)
	for r := range part {
		part[r] = api.Range{Low: min(low[r], high[r]), High: max(low[r], high[r])}
	}
	return part
}

// Contract returns a contract; the numbers from Min to Max are few, many or all.
func (m *Maker) Contract() api.Contract {
	c := api.Contract{Low: m.State(), High: Zeros(), Out: m.Below(api.Registers)}
	left, first := api.MaxBox, m.Below(api.Registers)
	for i := range c.Low {
		r := (first + i) % api.Registers
		wide := min(1+m.Below(min(left, 12)), api.MaxValue-c.Low[r]+1)
		c.High[r] = c.Low[r] + wide - 1
		left /= wide
	}
	c.Min, c.Max = m.Number(), m.Number()
	if c.Min > c.Max {
		c.Min, c.Max = c.Max, c.Min
	}
	return c
}
