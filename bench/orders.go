package bench

import (
	"slices"

	"tinker/api"
	"tinker/check"
	"tinker/code"
	"tinker/kit"
	"tinker/patch"
	"tinker/seek"
)

// after returns the state after an order; the error is a refusal.
func (s state) after(text string) (state, error) {
	next, why := s.execute(text)
	if why != api.OK {
		return state{}, refusal{len(s.orders), why}
	}
	next.orders = with(s.orders, text)
	return next, nil
}

// afterAll returns the state after orders; the error is the refusal of the first one that is refused.
func (s state) afterAll(orders []string) (state, error) {
	for _, text := range orders {
		next, err := s.after(text)
		if err != nil {
			return state{}, err
		}
		s = next
	}
	return s, nil
}

// with returns a list with one item more; the list itself stays as it is, and the room behind it too.
func with[T any](list []T, item T) []T {
	return append(slices.Clip(list), item)
}

// without returns a list without the item n; the list itself stays as it is.
func without[T any](list []T, n int) []T {
	return slices.Delete(slices.Clone(list), n, n+1)
}

// execute returns the state after an order, but for its book.
func (s state) execute(text string) (state, api.Errno) {
	o, is := parse(text)
	if !is {
		return state{}, api.ErrSyntax
	}
	if len(s.orders) >= api.MaxPages {
		return state{}, api.ErrLarge
	}
	n := o.numbers
	switch o.kind {
	case toPut:
		return s.put(api.Edit{At: n[0], Line: api.Line{Op: n[1], To: n[2], A: n[3], B: n[4]}})
	case toUndo:
		return s.undo()
	case toTest:
		return s.addTest(api.Test{In: n[:api.Registers], Out: n[api.Registers], Want: n[api.Registers+1]})
	case toForget:
		return s.forget(n[0])
	case toLock:
		return s.lock(n[0])
	case toFix:
		return s.fix()
	}
	return s.check()
}

// put makes a repair of one edit.
func (s state) put(edit api.Edit) (state, api.Errno) {
	if !kit.IsBetween(edit.At, 0, len(s.program)-1) {
		return state{}, api.ErrNone
	}
	if e := code.ValidateLine(edit.Line); e != api.OK {
		return state{}, e
	}
	if s.program[edit.At] == edit.Line {
		return state{}, api.ErrTwice
	}
	if s.isFull() {
		return state{}, api.ErrLarge
	}
	return s.repaired([]api.Edit{edit}).ifLocksHold()
}

// isFull reports whether the history has no room for another repair.
func (s state) isFull() bool {
	return len(s.history) >= api.MaxRepairs
}

// repaired returns the state after a repair.
func (s state) repaired(x []api.Edit) state {
	s.program, _ = patch.Do(s.program, x)
	s.history = with(s.history, x)
	return s
}

// ifLocksHold returns the state, or ErrRule if a locked test fails in it.
func (s state) ifLocksHold() (state, api.Errno) {
	if !s.keepsLocks() {
		return state{}, api.ErrRule
	}
	return s, api.OK
}

// undo takes the last repair back.
func (s state) undo() (state, api.Errno) {
	if len(s.history) == 0 {
		return state{}, api.ErrState
	}
	s.history = s.history[:len(s.history)-1]
	s.program = s.played()
	return s.ifLocksHold()
}

// addTest adds a test at the end.
func (s state) addTest(t api.Test) (state, api.Errno) {
	if e := check.ValidateTests([]api.Test{t}); e != api.OK {
		return state{}, e
	}
	if len(s.tests) >= api.MaxTests {
		return state{}, api.ErrLarge
	}
	s.tests = with(s.tests, t)
	s.locked = with(s.locked, false)
	return s, api.OK
}

// forget leaves a test out.
func (s state) forget(n int) (state, api.Errno) {
	if !s.hasTest(n) {
		return state{}, api.ErrNone
	}
	if s.locked[n] {
		return state{}, api.ErrState
	}
	s.tests = without(s.tests, n)
	s.locked = without(s.locked, n)
	return s, api.OK
}

// lock locks a test: from now on, what makes it fail is refused.
func (s state) lock(n int) (state, api.Errno) {
	if !s.hasTest(n) {
		return state{}, api.ErrNone
	}
	if s.locked[n] {
		return state{}, api.ErrTwice
	}
	if slices.Contains(s.failing(), n) {
		return state{}, api.ErrState
	}
	s.locked = slices.Clone(s.locked)
	s.locked[n] = true
	return s, api.OK
}

// fix makes the repair that package seek finds. No locked test fails after it, since none does.
func (s state) fix() (state, api.Errno) {
	if len(s.failing()) == 0 {
		return state{}, api.ErrState
	}
	if s.isFull() {
		return state{}, api.ErrLarge
	}
	x, _, some, _ := seek.Repair(s.program, s.tests)
	if !some {
		return state{}, api.ErrNone
	}
	s = s.repaired(x)
	s.fixes++
	return s, api.OK
}

// check counts that all tests pass.
func (s state) check() (state, api.Errno) {
	if len(s.tests) == 0 {
		return state{}, api.ErrState
	}
	if len(s.failing()) > 0 {
		return state{}, api.ErrProof
	}
	s.checks++
	return s, api.OK
}
