package span_test

import (
	"slices"

	"tinker/api"
	"tinker/code"
	"tinker/sample"
)

// The model says in its own words what the spans of a program are; the tests hold the package against it.
// What an operation makes of ranges is found by runs from their bounds, and each line asks all lines before it what they send.

// box returns the box of the given bounds.
func box(n ...int) []api.Range {
	var b []api.Range
	for i := 0; i+1 < len(n); i += 2 {
		b = append(b, api.Range{Low: n[i], High: n[i+1]})
	}
	return b
}

// set is a line that sets a register.
func set(to, n int) api.Line { return api.Line{Op: api.Set, To: to, A: n} }

// skip is a line that leaves out lines if a is below b.
func skip(lines, a, b int) api.Line { return api.Line{Op: api.Skip, To: lines, A: a, B: b} }

// modelBoxes returns the box of each line, and that of the end; none for a line that is not reached.
func modelBoxes(p []api.Line, b []api.Range) [][]api.Range {
	boxes := [][]api.Range{b}
	for at := 1; at <= len(p); at++ {
		var came [][]api.Range
		for from, l := range p[:at] {
			if boxes[from] != nil {
				came = append(came, modelSends(l, boxes[from], at-from, at == len(p))...)
			}
		}
		boxes = append(boxes, modelHull(came))
	}
	return boxes
}

// modelSends returns the boxes that go from a line to that which stands so many lines behind it.
func modelSends(l api.Line, b []api.Range, behind int, isEnd bool) [][]api.Range {
	next, jump := modelWays(l, b)
	var sent [][]api.Range
	if next && behind == 1 {
		sent = append(sent, modelStep(l, b))
	}
	if jump && (behind == l.To+1 || isEnd && behind < l.To+1) {
		sent = append(sent, b)
	}
	return sent
}

// modelWays reports whether a line leads to the next one, and whether it leads behind lines that it leaves out.
func modelWays(l api.Line, b []api.Range) (next, jump bool) {
	if l.Op != api.Skip {
		return true, false
	}
	for _, x := range []int{b[l.A].Low, b[l.A].High} {
		for _, y := range []int{b[l.B].Low, b[l.B].High} {
			if l.A == l.B {
				y = x
			}
			next, jump = next || x >= y, jump || x < y
		}
	}
	return next, jump
}

// modelStep returns the box after a line.
func modelStep(l api.Line, b []api.Range) []api.Range {
	after := slices.Clone(b)
	to, writes, _ := code.Writes(l)
	if !writes {
		return after
	}
	a, c := []int{0}, []int{0}
	if l.Op != api.Set {
		a, c = []int{b[l.A].Low, b[l.A].High}, []int{b[l.B].Low, b[l.B].High}
	}
	var made []int
	for _, x := range a {
		for _, y := range c {
			made = append(made, modelNumber(l, x, y))
		}
	}
	after[to] = api.Range{Low: slices.Min(made), High: slices.Max(made)}
	return after
}

// modelNumber returns what a line writes if it reads x as A and y as B, though A and B may be the same register.
func modelNumber(l api.Line, x, y int) int {
	l.To = 0
	switch l.Op {
	case api.Copy:
		l.A = 1
	case api.Add, api.Subtract, api.Least, api.Greatest:
		l.A, l.B = 1, 2
	}
	end, _ := code.Run([]api.Line{l}, []int{0, x, y, 0})
	return end[0]
}

// modelHull returns the hull of boxes, or none of none.
func modelHull(boxes [][]api.Range) []api.Range {
	if len(boxes) == 0 {
		return nil
	}
	hull := slices.Clone(boxes[0])
	for _, b := range boxes {
		for r, x := range b {
			hull[r] = api.Range{Low: min(hull[r].Low, x.Low), High: max(hull[r].High, x.High)}
		}
	}
	return hull
}

// modelHas reports whether a state is in a box.
func modelHas(b []api.Range, in []int) bool {
	for r, n := range in {
		if n < b[r].Low || n > b[r].High {
			return false
		}
	}
	return true
}

// modelOf returns the box of a contract.
func modelOf(c api.Contract) []api.Range {
	b := make([]api.Range, api.Registers)
	for r := range b {
		b[r] = api.Range{Low: c.Low[r], High: c.High[r]}
	}
	return b
}

// corners returns the states of a box whose numbers are bounds.
func corners(b []api.Range) [][]int {
	var list [][]int
	for n := range 16 {
		in := sample.Zeros()
		for r, x := range b {
			in[r] = [...]int{x.Low, x.High}[n>>r&1]
		}
		list = append(list, in)
	}
	return list
}
