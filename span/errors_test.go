package span_test

import (
	"math"
	"testing"

	"tinker/api"
	"tinker/sample"
	"tinker/span"
)

// wrongBoxes are no boxes.
func wrongBoxes() [][]api.Range {
	list := [][]api.Range{nil, {}, box(0, 0), box(0, 0, 0, 0, 0, 0), box(0, 0, 0, 0, 0, 0, 0, 0, 0, 0), make([]api.Range, 1000)}
	for r := range api.Registers {
		for _, x := range []api.Range{
			{Low: 1, High: 0}, {Low: 0, High: -1}, {Low: 999, High: -999}, {Low: -1000, High: 0}, {Low: 0, High: 1000}, {Low: 1000, High: 1000},
			{Low: -1000, High: -1000}, {Low: math.MinInt, High: math.MaxInt}, {Low: math.MaxInt, High: math.MinInt}, {Low: math.MinInt, High: math.MinInt}, {Low: math.MaxInt, High: math.MaxInt},
		} {
			b := make([]api.Range, api.Registers)
			b[r] = x
			list = append(list, b)
		}
	}
	return list
}

// someBoxes are boxes.
func someBoxes() [][]api.Range {
	return [][]api.Range{
		box(0, 0, 0, 0, 0, 0, 0, 0), box(-999, -999, 999, 999, -999, 999, 0, 1), box(-999, 999, -999, 999, -999, 999, -999, 999), box(0, 0, -999, 999, 0, 5, 7, 7),
	}
}

// wrongStates are no states.
func wrongStates() [][]int {
	return [][]int{nil, {}, {0}, {0, 0, 0}, {0, 0, 0, 0, 0}, {1000, 0, 0, 0}, {0, 0, 0, -1000}, {0, math.MinInt, 0, 0}, {0, 0, math.MaxInt, 0}}
}

// wrongRegisters are no registers.
func wrongRegisters() []int { return []int{math.MinInt, -1, 4, 5, 8, math.MaxInt} }

// upTo is a contract of the register 0 for the states from zeros to the given one.
func upTo(least, most int, high ...int) api.Contract {
	return api.Contract{Low: sample.Zeros(), High: high, Min: least, Max: most}
}

// wrongContracts are no contracts, by the error for them.
func wrongContracts() map[api.Errno][]api.Contract {
	out := upTo(0, 0, 400, 0, 0, 0)
	out.Out = 4
	return map[api.Errno][]api.Contract{
		api.ErrArg: {
			{}, out, upTo(1, 0, 0, 0, 0, 0), upTo(1, 0, 400, 0, 0, 0), upTo(0, 1000, 0, 0, 0, 0), upTo(-1000, 0, 999, 999, 999, 999), upTo(0, 0, 0, 0, 0, -1), upTo(0, 0, 0, 0, 0), upTo(0, 0, 1000, 0, 0, 0),
		},
		api.ErrLarge: {upTo(0, 0, 400, 0, 0, 0), upTo(0, 0, 20, 0, 0, 19), upTo(0, 0, 999, 999, 999, 999), {Low: []int{-999, -999, -999, -999}, High: []int{999, 999, 999, 999}}},
	}
}

// expect reports a code other than the wanted one, and results beside an error; zero tells whether all other results are zero.
func expect(t *testing.T, what string, got, want api.Errno, zero bool) {
	t.Helper()
	if got != want {
		t.Errorf("P6.1: %s: the code is %d, not %d", what, got, want)
	}
	if got != api.OK && !zero {
		t.Errorf("R3: %s: there is a result beside the error %d", what, got)
	}
}

func TestValidate(t *testing.T) {
	for _, b := range someBoxes() {
		if e := span.Validate(b); e != api.OK {
			t.Error("P6.1:", b, e)
		}
	}
	for _, b := range wrongBoxes() {
		if e := span.Validate(b); e != api.ErrArg {
			t.Error("P6.1:", b, e)
		}
	}
}

// withStates calls the functions with a box and a state.
func withStates(t *testing.T, b []api.Range, in []int, want api.Errno) {
	t.Helper()
	has, e := span.Has(b, in)
	expect(t, "Has", e, want, !has)
}

// withBoxes calls the functions with two boxes.
func withBoxes(t *testing.T, a, b []api.Range, want api.Errno) {
	t.Helper()
	is, e := span.Within(a, b)
	expect(t, "Within", e, want, !is)
	hull, e := span.Hull(a, b)
	expect(t, "Hull", e, want, len(hull) == 0)
	meet, some, e := span.Meet(a, b)
	expect(t, "Meet", e, want, len(meet) == 0 && !some)
}

// TestErrorsOfBoxes: wrong boxes and states in functions without programs.
func TestErrorsOfBoxes(t *testing.T) {
	for _, good := range someBoxes() {
		withBoxes(t, good, good, api.OK)
		withStates(t, good, sample.Zeros(), api.OK)
		for _, in := range wrongStates() {
			withStates(t, good, in, api.ErrArg)
		}
	}
	for _, bad := range wrongBoxes() {
		for _, good := range someBoxes() {
			withBoxes(t, bad, good, api.ErrArg)
			withBoxes(t, good, bad, api.ErrArg)
		}
		withBoxes(t, bad, bad, api.ErrArg)
		withStates(t, bad, sample.Zeros(), api.ErrArg)
		withStates(t, bad, nil, api.ErrArg)
		size, e := span.Size(bad)
		expect(t, "Size", e, api.ErrArg, size == 0)
		for _, register := range append(wrongRegisters(), 0, 3) {
			refuseHalves(t, bad, register, api.ErrArg)
		}
	}
	for _, in := range wrongStates() {
		b, e := span.Point(in)
		expect(t, "Point", e, api.ErrArg, len(b) == 0)
	}
	for want, list := range wrongContracts() {
		for _, c := range list {
			b, e := span.Of(c)
			expect(t, "Of", e, want, len(b) == 0)
		}
	}
}

func refuseHalves(t *testing.T, b []api.Range, register int, want api.Errno) {
	t.Helper()
	first, second, e := span.Halves(b, register)
	expect(t, "Halves", e, want, len(first) == 0 && len(second) == 0)
}

// TestErrorsOfHalves: a register that is none comes before a range of one number.
func TestErrorsOfHalves(t *testing.T) {
	for _, b := range someBoxes() {
		for _, register := range wrongRegisters() {
			refuseHalves(t, b, register, api.ErrArg)
		}
		for register, x := range b {
			want := api.OK
			if x.Low == x.High {
				want = api.ErrRule
			}
			refuseHalves(t, b, register, want)
		}
	}
}

// withProgram calls the functions with a program and a box. That of a line has an error of its own if others have none.
func withProgram(t *testing.T, p []api.Line, b []api.Range, line int, want, wantOfLine api.Errno) {
	t.Helper()
	after, e := span.After(p, b)
	expect(t, "After", e, want, len(after) == 0)
	reached, e := span.Reached(p, b)
	expect(t, "Reached", e, want, len(reached) == 0)
	dead, e := span.Dead(p, b)
	expect(t, "Dead", e, want, len(dead) == 0)
	before, is, e := span.Before(p, b, line)
	expect(t, "Before", e, wantOfLine, len(before) == 0 && !is)
}

// TestErrorsOfPrograms: errors of the program, then those of the box, and then a line that there is not.
func TestErrorsOfPrograms(t *testing.T) {
	bad, long := []api.Line{set(0, 3), sample.BadLine()}, sample.TooLong()
	for _, line := range []int{math.MinInt, -1, 0, 1, 2, 8, 9, math.MaxInt} {
		for _, b := range append(wrongBoxes(), someBoxes()...) {
			withProgram(t, long, b, line, api.ErrLarge, api.ErrLarge)
			withProgram(t, append(long, bad...), b, line, api.ErrLarge, api.ErrLarge)
			withProgram(t, bad, b, line, api.ErrArg, api.ErrArg)
		}
		for _, b := range wrongBoxes() {
			withProgram(t, nil, b, line, api.ErrArg, api.ErrArg)
			withProgram(t, sample.Six(), b, line, api.ErrArg, api.ErrArg)
		}
		for _, b := range someBoxes() {
			withProgram(t, nil, b, line, api.OK, api.ErrNone)
			want := api.ErrNone
			if line == 0 || line == 1 {
				want = api.OK
			}
			withProgram(t, sample.Six(), b, line, api.OK, want)
		}
	}
	full := make([]api.Line, 8)
	withProgram(t, full, someBoxes()[0], 7, api.OK, api.OK)
	withProgram(t, full, someBoxes()[0], 8, api.OK, api.ErrNone)
}

// withContract calls the functions with a program and a contract. That of a register has an error of its own if others have none.
func withContract(t *testing.T, p []api.Line, c api.Contract, register int, want, wantOfRegister api.Errno) {
	t.Helper()
	proves, e := span.Proves(p, c)
	expect(t, "Proves", e, want, !proves)
	verdict, e := span.Verdict(p, c)
	expect(t, "Verdict", e, want, verdict == 0)
	loss, e := span.Loss(p, c)
	expect(t, "Loss", e, want, loss == 0)
	each, e := span.ProvesEach(p, c, register)
	expect(t, "ProvesEach", e, wantOfRegister, !each)
}

// TestErrorsOfContracts: errors of the program, then those of the contract, and then a register that is none.
func TestErrorsOfContracts(t *testing.T) {
	bad, long, good := []api.Line{sample.BadLine()}, sample.TooLong(), upTo(0, 0, 399, 0, 0, 0)
	for _, register := range append(wrongRegisters(), 0, 3) {
		want := api.OK
		if register != 0 && register != 3 {
			want = api.ErrArg
		}
		withContract(t, nil, good, register, api.OK, want)
		withContract(t, sample.Six(), good, register, api.OK, want)
		withContract(t, long, good, register, api.ErrLarge, api.ErrLarge)
		withContract(t, bad, good, register, api.ErrArg, api.ErrArg)
		for want, list := range wrongContracts() {
			for _, c := range list {
				withContract(t, nil, c, register, want, want)
				withContract(t, sample.Six(), c, register, want, want)
				withContract(t, long, c, register, api.ErrLarge, api.ErrLarge)
				withContract(t, bad, c, register, api.ErrArg, api.ErrArg)
			}
		}
	}
}

// TestMemory: a result shares no memory with an argument or with another result, and no argument is changed.
func TestMemory(t *testing.T) {
	p, b, other, in := []api.Line{skip(1, 0, 1), set(2, 9)}, box(0, 0, 1, 1, 0, 0, 0, 4), box(0, 0, 1, 1, 0, 0, 0, 2), []int{0, 1, 0, 0}
	c := upTo(0, 0, 0, 1, 0, 4)
	for range 2 {
		hull, _ := span.Hull(b, other)
		meet, _, _ := span.Meet(b, other)
		self, _, _ := span.Meet(b, b)
		point, _ := span.Point(in)
		of, _ := span.Of(c)
		none, _ := span.After(nil, b)
		after, _ := span.After(p, b)
		before, _, _ := span.Before(p, b, 0)
		first, second, _ := span.Halves(b, 3)
		for _, list := range [][]api.Range{hull, meet, self, point, of, none, after, before, first, second} {
			if !sample.SpoilWith(list, api.Range{Low: 77}) {
				t.Error("R5: a result is shared or empty:", list)
			}
		}
		reached, _ := span.Reached(p, b)
		dead, _ := span.Dead(p, b)
		for _, list := range [][]int{reached, dead} {
			if !sample.Spoil(list) {
				t.Error("R5: a result is shared or empty:", list)
			}
		}
	}
	sameBox(t, "R5: an argument is changed", b, box(0, 0, 1, 1, 0, 0, 0, 4))
	sameBox(t, "R5: an argument is changed", other, box(0, 0, 1, 1, 0, 0, 0, 2))
	sameBox(t, "R5: an argument is changed", modelOf(c), box(0, 0, 0, 1, 0, 0, 0, 4))
	if p[0] != skip(1, 0, 1) || p[1] != set(2, 9) || in[0] != 0 || in[1] != 1 {
		t.Error("R5: an argument is changed:", p, in)
	}
}
