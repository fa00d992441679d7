package code

import (
	"tinker/api"
	"tinker/kit"
)

// kind tells what a number of a line stands for.
type kind int

const (
	isUnused   kind = iota // it must be 0
	isRegister             // a register
	isNumber               // the number itself
	isCount                // how many lines are not done
)

// allows reports whether a number of this kind may be n.
func (k kind) allows(n int) bool {
	switch k {
	case isRegister:
		return kit.IsRegister(n)
	case isNumber:
		return kit.IsBetween(n, -api.MaxConst, api.MaxConst)
	case isCount:
		return kit.IsBetween(n, 1, api.MaxLines)
	}
	return n == 0
}

// in returns the number that n, of this kind, means in a state.
func (k kind) in(s state, n int) int {
	if k == isRegister {
		return s[n]
	}
	return n
}

// operation describes the lines of one Op.
type operation struct {
	to, a, b kind
	result   func(a, b int) int  // what the register To becomes, if To is a register
	skips    func(a, b int) bool // whether the next To lines are not done
}

// operationCount is the number of operations: Skip is the last one.
const operationCount = api.Skip + 1

// operations returns the table of all operations, by their Op.
func operations() [operationCount]operation {
	return [operationCount]operation{
		api.None:     {isUnused, isUnused, isUnused, first, never},
		api.Set:      {isRegister, isNumber, isUnused, first, never},
		api.Copy:     {isRegister, isRegister, isUnused, first, never},
		api.Add:      {isRegister, isRegister, isRegister, sum, never},
		api.Subtract: {isRegister, isRegister, isRegister, difference, never},
		api.Least:    {isRegister, isRegister, isRegister, smaller, never},
		api.Greatest: {isRegister, isRegister, isRegister, greater, never},
		api.Skip:     {isCount, isRegister, isRegister, first, isBelow},
	}
}

func first(a, _ int) int      { return a }
func sum(a, b int) int        { return a + b }
func difference(a, b int) int { return a - b }
func smaller(a, b int) int    { return min(a, b) }
func greater(a, b int) int    { return max(a, b) }
func isBelow(a, b int) bool   { return a < b }
func never(_, _ int) bool     { return false }

// isLine reports whether l is a line.
func isLine(l api.Line) bool {
	if !kit.IsBetween(l.Op, 0, operationCount-1) {
		return false
	}
	op := operations()[l.Op]
	return op.to.allows(l.To) && op.a.allows(l.A) && op.b.allows(l.B)
}

// writes reports whether a valid line writes its register To.
func writes(l api.Line) bool {
	return operations()[l.Op].to == isRegister
}

// reads tells of each register whether a valid line reads it.
func reads(l api.Line) [api.Registers]bool {
	var read [api.Registers]bool
	op := operations()[l.Op]
	if op.a == isRegister {
		read[l.A] = true
	}
	if op.b == isRegister {
		read[l.B] = true
	}
	return read
}
