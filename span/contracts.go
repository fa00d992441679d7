package span

import (
	"tinker/api"
	"tinker/check"
	"tinker/code"
	"tinker/kit"
)

// validateContract returns the errors of a program and of its contract.
func validateContract(p []api.Line, c api.Contract) api.Errno {
	return kit.FirstError(code.Validate(p), check.ValidateContract(c))
}

// proves reports whether, from a box, the register Out ends in a range from Min to Max.
func proves(p []api.Line, b box, c api.Contract) bool {
	return end(p, b)[c.Out].isWithin(interval{c.Min, c.Max})
}

// Proves reports whether the spans from the box of a contract show that it is kept.
func Proves(p []api.Line, c api.Contract) (bool, api.Errno) {
	if e := validateContract(p, c); e != api.OK {
		return false, e
	}
	return proves(p, boxBetween(c.Low, c.High), c), api.OK
}

// ProvesEach reports whether the spans show that a contract is kept if they are taken for each number of a register alone.
func ProvesEach(p []api.Line, c api.Contract, register int) (bool, api.Errno) {
	if e := kit.FirstError(validateContract(p, c), validateRegister(register)); e != api.OK {
		return false, e
	}
	b := boxBetween(c.Low, c.High)
	for n := c.Low[register]; n <= c.High[register]; n++ {
		if !proves(p, b.with(register, only(n)), c) {
			return false, api.OK
		}
	}
	return true, api.OK
}

// Verdict returns 1 if the spans prove that a contract is kept, -1 if it is not kept, and 0 if it is kept without that proof.
func Verdict(p []api.Line, c api.Contract) (int, api.Errno) {
	if e := validateContract(p, c); e != api.OK {
		return 0, e
	}
	if proves(p, boxBetween(c.Low, c.High), c) {
		return 1, api.OK
	}
	if kept, _ := check.Keeps(p, c); !kept {
		return -1, api.OK
	}
	return 0, api.OK
}

// Loss returns by how much the spans of the register Out are wider than they need to be.
func Loss(p []api.Line, c api.Contract) (int, api.Errno) {
	if e := validateContract(p, c); e != api.OK {
		return 0, e
	}
	least, most, _ := check.Extremes(p, c)
	return end(p, boxBetween(c.Low, c.High))[c.Out].width() - (most - least), api.OK
}
