package span

import (
	"tinker/api"
	"tinker/code"
	"tinker/kit"
)

// reach tells whether a line is reached.
type reach struct {
	isReached bool
}

// lineBox is the box with which a line is reached; it has a meaning only if the line is.
type lineBox struct {
	reach
	box
}

// receive lets a box go to the line.
func (x *lineBox) receive(b box) {
	if x.isReached {
		b = x.joined(b, interval.hull)
	}
	*x = lineBox{reach{true}, b}
}

// follow returns the boxes of the lines of a valid program, and behind them that of the end, which is always reached.
func follow(p []api.Line, b box) []lineBox {
	list := make([]lineBox, len(p)+1)
	list[0].receive(b)
	for at, l := range p {
		x := list[at]
		if !x.isReached {
			continue
		}
		if x.goesOn(l) {
			list[at+1].receive(x.after(l))
		}
		if x.skips(l) {
			list[min(at+1+l.To, len(p))].receive(x.box)
		}
	}
	return list
}

// goesOn reports whether the line after l can be the next one. Of a register and itself this holds too: no High is below its Low.
func (b box) goesOn(l api.Line) bool {
	return l.Op != api.Skip || b[l.A].High >= b[l.B].Low
}

// skips reports whether l can leave out lines. No register is below itself, however many numbers it may be.
func (b box) skips(l api.Line) bool {
	return l.Op == api.Skip && l.A != l.B && b[l.A].Low < b[l.B].High
}

// after returns the box after a valid line.
func (b box) after(l api.Line) box {
	to, writes, _ := code.Writes(l)
	if !writes {
		return b
	}
	return b.with(to, b.written(l).cut())
}

// written returns what a line that writes makes of a box, before it is cut.
func (b box) written(l api.Line) interval {
	switch l.Op {
	case api.Copy:
		return b[l.A]
	case api.Add:
		return b[l.A].plus(b[l.B])
	case api.Subtract:
		return b[l.A].minus(b[l.B])
	case api.Least:
		return b[l.A].least(b[l.B])
	case api.Greatest:
		return b[l.A].greatest(b[l.B])
	}
	return only(l.A)
}

// end returns the box at the end of a valid program.
func end(p []api.Line, b box) box {
	return follow(p, b)[len(p)].box
}

// validateSpans returns the errors of a program and of a box from which it is followed.
func validateSpans(p []api.Line, b []api.Range) api.Errno {
	return kit.FirstError(code.Validate(p), Validate(b))
}

// After returns the box at the end.
func After(p []api.Line, b []api.Range) ([]api.Range, api.Errno) {
	if e := validateSpans(p, b); e != api.OK {
		return nil, e
	}
	return end(p, boxOf(b)).ranges(), api.OK
}

// Before returns the box with which a line is reached; false if it is not.
func Before(p []api.Line, b []api.Range, line int) ([]api.Range, bool, api.Errno) {
	if e := validateSpans(p, b); e != api.OK {
		return nil, false, e
	}
	if !kit.IsBetween(line, 0, len(p)-1) {
		return nil, false, api.ErrNone
	}
	x := follow(p, boxOf(b))[line]
	if !x.isReached {
		return nil, false, api.OK
	}
	return x.ranges(), true, api.OK
}

// Reached returns the set of the lines that are reached.
func Reached(p []api.Line, b []api.Range) ([]int, api.Errno) {
	return linesThat(p, b, true)
}

// Dead returns the set of the lines that are not reached.
func Dead(p []api.Line, b []api.Range) ([]int, api.Errno) {
	return linesThat(p, b, false)
}

// linesThat returns the set of the lines that are reached, or of those that are not.
func linesThat(p []api.Line, b []api.Range, areReached bool) ([]int, api.Errno) {
	if e := validateSpans(p, b); e != api.OK {
		return nil, e
	}
	list := make([]bool, len(p))
	for at, x := range follow(p, boxOf(b))[:len(p)] {
		list[at] = x.isReached == areReached
	}
	return kit.Places(list), api.OK
}
