package bench

import (
	"slices"

	"tinker/api"
	"tinker/check"
	"tinker/code"
	"tinker/kit"
	"tinker/patch"
)

// state is what a bench has at a moment. Its lists are never changed in place, so that a copy of it stays as it is.
type state struct {
	first, program []api.Line // before the history and after it
	tests          []api.Test
	locked         []bool // of each test
	history        [][]api.Edit
	fixes, checks  int
	orders         []string // that were done
}

// begin returns the state of a new bench.
func begin(p []api.Line) (state, api.Errno) {
	if e := code.Validate(p); e != api.OK {
		return state{}, e
	}
	p = slices.Clone(p)
	return state{first: p, program: p}, api.OK
}

// failing returns the set of the tests that fail.
func (s state) failing() []int {
	set, _ := check.Failing(s.program, s.tests)
	return set
}

// lockedTests returns the set of the locked tests.
func (s state) lockedTests() []int {
	return kit.Places(s.locked)
}

// keepsLocks reports whether no locked test fails.
func (s state) keepsLocks() bool {
	return !slices.ContainsFunc(s.failing(), func(n int) bool { return s.locked[n] })
}

// hasTest reports whether there is a test n.
func (s state) hasTest(n int) bool {
	return kit.IsBetween(n, 0, len(s.tests)-1)
}

// played returns what the history makes of the first program.
func (s state) played() []api.Line {
	p := s.first
	for _, x := range s.history {
		p, _ = patch.Do(p, x)
	}
	return p
}

// isSound reports whether a state is what its history and its book make, and no locked test fails.
func (s state) isSound() bool {
	again, _, e := Replay(s.first, write(s.orders))
	return e == api.OK && again.look().equals(s) && slices.Equal(s.played(), s.program) && s.keepsLocks()
}

// equals reports whether two benches show the same.
func (s state) equals(other state) bool {
	return slices.Equal(s.program, other.program) &&
		slices.EqualFunc(s.tests, other.tests, areEqual) &&
		slices.Equal(s.locked, other.locked) &&
		slices.EqualFunc(s.history, other.history, slices.Equal) &&
		s.fixes == other.fixes && s.checks == other.checks &&
		slices.Equal(s.orders, other.orders)
}

func areEqual(t, u api.Test) bool {
	return slices.Equal(t.In, u.In) && t.Out == u.Out && t.Want == u.Want
}
