package code_test

import (
	"math"
	"slices"
	"testing"

	"tinker/api"
)

// The model says in its own words what a program does; the tests hold the package against it.

// course is what the model tells of a run.
type course struct {
	end    []int
	done   []int
	before map[int][]int
}

// model runs a program, with the values of forced lines.
func model(p []api.Line, in []int, forced map[int]int) course {
	now := [4]int{in[0], in[1], in[2], in[3]}
	c := course{before: map[int][]int{}}
	next := 0
	for line, l := range p {
		if line < next {
			continue
		}
		next = line + 1
		c.done = append(c.done, line)
		c.before[line] = []int{now[0], now[1], now[2], now[3]}
		n := 0
		switch l.Op {
		case api.None:
			continue
		case api.Skip:
			if now[l.A] < now[l.B] {
				next += l.To
			}
			continue
		case api.Set:
			n = l.A
		case api.Copy:
			n = now[l.A]
		case api.Add:
			n = now[l.A] + now[l.B]
		case api.Subtract:
			n = now[l.A] - now[l.B]
		case api.Least:
			n = now[l.A]
			if now[l.B] < n {
				n = now[l.B]
			}
		case api.Greatest:
			n = now[l.A]
			if now[l.B] > n {
				n = now[l.B]
			}
		}
		if n > 999 {
			n = 999
		}
		if n < -999 {
			n = -999
		}
		if value, is := forced[line]; is {
			n = value
		}
		now[l.To] = n
	}
	c.end = now[:]
	return c
}

// modelReads returns the registers that a line reads.
func modelReads(l api.Line) []int {
	switch l.Op {
	case api.None, api.Set:
		return nil
	case api.Copy:
		return []int{l.A}
	}
	if l.A == l.B {
		return []int{l.A}
	}
	return []int{min(l.A, l.B), max(l.A, l.B)}
}

// modelWrites returns the register that a line writes, or -1.
func modelWrites(l api.Line) int {
	if l.Op == api.None || l.Op == api.Skip {
		return -1
	}
	return l.To
}

// modelSlice returns the slice of a register: a line is in it if a line after it, or the end, wants what it writes.
func modelSlice(p []api.Line, in []int, register int) []int {
	matter := map[int]bool{register: true}
	var slice []int
	done := model(p, in, nil).done
	for i := len(done) - 1; i >= 0; i-- {
		l := p[done[i]]
		if l.Op != api.Skip && !matter[modelWrites(l)] {
			continue
		}
		delete(matter, modelWrites(l))
		for _, r := range modelReads(l) {
			matter[r] = true
		}
		slice = append([]int{done[i]}, slice...)
	}
	return slice
}

// modelIndependent reports whether two lines are independent.
func modelIndependent(l, m api.Line) bool {
	if l.Op == api.Skip || m.Op == api.Skip {
		return false
	}
	for _, x := range [][2]api.Line{{l, m}, {m, l}} {
		to := modelWrites(x[0])
		if to >= 0 && (slices.Contains(modelReads(x[1]), to) || modelWrites(x[1]) == to) {
			return false
		}
	}
	return true
}

// extremes are numbers that no field may have.
func extremes() []int {
	return []int{math.MinInt, math.MinInt + 1, -1000, -10, 10, 1000, math.MaxInt - 1, math.MaxInt}
}

// expect reports a code other than the wanted one.
func expect(t *testing.T, promise, what string, got, want api.Errno) {
	t.Helper()
	if got != want {
		t.Errorf("%s: %s: the code is %d, not %d", promise, what, got, want)
	}
}
