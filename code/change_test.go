package code_test

import (
	"math"
	"slices"
	"testing"

	"tinker/api"
	"tinker/code"
	"tinker/sample"
)

func TestPut(t *testing.T) {
	l := api.Line{Op: api.Set, A: 4}
	if q, e := code.Put(sample.Six(), 0, l); e != api.OK || !slices.Equal(q, []api.Line{l, {Op: api.Add}}) {
		t.Error("P1.4:", q, e)
	}
	if q, e := code.Put(sample.Six(), 1, l); e != api.OK || !slices.Equal(q, []api.Line{{Op: api.Set, A: 3}, l}) {
		t.Error("P1.4:", q, e)
	}
	full := make([]api.Line, 8)
	if q, e := code.Put(full, 7, l); e != api.OK || !slices.Equal(q, append(make([]api.Line, 7), l)) {
		t.Error("P1.4:", q, e)
	}
	for _, at := range []int{math.MinInt, -1, 2, 7, math.MaxInt} {
		if q, e := code.Put(sample.Six(), at, l); e != api.ErrNone || len(q) != 0 {
			t.Error("P1.4:", at, q, e)
		}
		if _, e := code.Put(sample.Six(), at, sample.BadLine()); e != api.ErrArg {
			t.Error("R2: a line that is not valid at no place:", at, e)
		}
	}
	if _, e := code.Put(nil, 0, l); e != api.ErrNone {
		t.Error("P1.4: a place of the empty program:", e)
	}
	if _, e := code.Put(sample.TooLong(), 0, sample.BadLine()); e != api.ErrLarge {
		t.Error("R2:", e)
	}
}

// TestIndependent goes through all pairs of lines.
func TestIndependent(t *testing.T) {
	lines := sample.Lines()
	for _, l := range lines {
		for _, m := range lines {
			if is, e := code.Independent(l, m); e != api.OK || is != modelIndependent(l, m) {
				t.Fatalf("P1.4: Independent of %v and %v: %v %d", l, m, is, e)
			}
		}
	}
}

func TestIndependentExamples(t *testing.T) {
	set := api.Line{Op: api.Set, To: 0, A: 1}
	for _, x := range []struct {
		what string
		l, m api.Line
		want bool
	}{
		{"two registers", set, api.Line{Op: api.Set, To: 1, A: 0}, true},
		{"the same register, the same line", set, set, false},
		{"the second one reads", set, api.Line{Op: api.Copy, To: 1, A: 0}, false},
		{"the first one reads", api.Line{Op: api.Copy, To: 1, A: 0}, set, false},
		{"the second number is read", set, api.Line{Op: api.Add, To: 1, A: 2, B: 0}, false},
		{"both read the same", api.Line{Op: api.Copy, To: 1, A: 0}, api.Line{Op: api.Copy, To: 2, A: 0}, true},
		{"None", api.Line{}, set, true},
		{"None twice", api.Line{}, api.Line{}, true},
		{"a Skip first", api.Line{Op: api.Skip, To: 1, A: 1, B: 1}, api.Line{}, false},
		{"a Skip second", api.Line{}, api.Line{Op: api.Skip, To: 1, A: 1, B: 1}, false},
		{"two Skips", api.Line{Op: api.Skip, To: 1}, api.Line{Op: api.Skip, To: 1}, false},
	} {
		if is, e := code.Independent(x.l, x.m); e != api.OK || is != x.want {
			t.Errorf("P1.4: %s: %v %d", x.what, is, e)
		}
	}
}

// TestCanExchange: a Skip may lead before or behind a pair, but not into its middle.
func TestCanExchange(t *testing.T) {
	for to, want := range map[int]bool{1: true, 2: false, 3: true, 4: true, 8: true} {
		p := []api.Line{{Op: api.Skip, To: to, A: 0, B: 1}, {}, {Op: api.Set, To: 2, A: 1}, {Op: api.Set, To: 3, A: 2}, {}}
		if is, e := code.CanExchange(p, 2); e != api.OK || is != want {
			t.Errorf("P1.4: a Skip of %d lines: %v %d", to, is, e)
		}
		q, e := code.Exchange(p, 2)
		if want && (e != api.OK || !slices.Equal(q, []api.Line{p[0], p[1], p[3], p[2], p[4]})) {
			t.Errorf("P1.4: a Skip of %d lines: %v %d", to, q, e)
		}
		if !want && (e != api.ErrRule || len(q) != 0) {
			t.Errorf("P1.4: a Skip of %d lines: %v %d", to, q, e)
		}
	}
	// Not the first Skip alone counts, nor only one that is done; and only lines before the pair.
	p := []api.Line{{Op: api.Skip, To: 8, A: 0, B: 1}, {Op: api.Skip, To: 1, A: 0, B: 0}, {Op: api.Set, To: 2}, {Op: api.Set, To: 3}}
	if is, e := code.CanExchange(p, 2); e != api.OK || is {
		t.Error("P1.4:", is, e)
	}
	p = []api.Line{{Op: api.Add, To: 1, A: 0, B: 0}, {Op: api.Set, To: 2}, {Op: api.Set, To: 3}, {Op: api.Skip, To: 1, A: 0, B: 1}}
	if is, e := code.CanExchange(p, 1); e != api.OK || !is {
		t.Error("P1.4: a line that is no Skip, and a Skip behind:", is, e)
	}
}

func TestNoPair(t *testing.T) {
	two := []api.Line{{Op: api.Set, To: 0}, {Op: api.Set, To: 1}}
	for _, x := range []struct {
		p  []api.Line
		at int
	}{
		{nil, 0}, {nil, -1}, {two[:1], 0}, {two[:1], -1}, {two, 1}, {two, 2}, {two, -1}, {two, -2},
		{two, math.MinInt}, {two, math.MaxInt}, {make([]api.Line, 8), 7}, {make([]api.Line, 8), math.MaxInt - 1},
	} {
		if is, e := code.CanExchange(x.p, x.at); e != api.ErrNone || is {
			t.Error("P1.4:", x.p, x.at, is, e)
		}
		if q, e := code.Exchange(x.p, x.at); e != api.ErrNone || len(q) != 0 {
			t.Error("P1.4:", x.p, x.at, q, e)
		}
	}
	if is, e := code.CanExchange(make([]api.Line, 8), 6); e != api.OK || !is {
		t.Error("P1.4: the last pair:", is, e)
	}
}

// TestExchangeChangesNoRun is the consequence of P1.4, and holds CanExchange against the model.
func TestExchangeChangesNoRun(t *testing.T) {
	m := sample.New()
	exchanged := 0
	for range 20000 {
		p, in := m.Program(), m.State()
		end, _ := code.Run(p, in)
		for at := range max(len(p)-1, 0) {
			want := modelIndependent(p[at], p[at+1])
			for s := range at {
				want = want && !(p[s].Op == api.Skip && s+p[s].To == at)
			}
			is, e := code.CanExchange(p, at)
			if e != api.OK || is != want {
				t.Fatalf("P1.4: CanExchange of %v at %d: %v %d", p, at, is, e)
			}
			q, e := code.Exchange(p, at)
			if !is {
				expect(t, "P1.4", "Exchange", e, api.ErrRule)
				continue
			}
			exchanged++
			other, f := code.Run(q, in)
			if e != api.OK || f != api.OK || !slices.Equal(other, end) {
				t.Fatalf("P1.4: %v at %d from %v: %v instead of %v", p, at, in, other, end)
			}
		}
	}
	if exchanged < 1000 {
		t.Error("too few pairs:", exchanged)
	}
}

// orders returns all orders of the registers.
func orders() [][]int {
	var list [][]int
	for n := range 256 {
		to := []int{n % 4, n / 4 % 4, n / 16 % 4, n / 64}
		sorted := slices.Sorted(slices.Values(to))
		if slices.Equal(sorted, []int{0, 1, 2, 3}) {
			list = append(list, to)
		}
	}
	return list
}

func TestRename(t *testing.T) {
	p := []api.Line{
		{},
		{Op: api.Set, To: 0, A: 2},
		{Op: api.Copy, To: 1, A: 3},
		{Op: api.Add, To: 2, A: 0, B: 1},
		{Op: api.Subtract, To: 3, A: 3, B: 2},
		{Op: api.Skip, To: 2, A: 1, B: 0},
		{Op: api.Least, To: 1, A: 1, B: 1},
		{Op: api.Greatest, To: 0, A: 2, B: 3},
	}
	want := []api.Line{
		{},
		{Op: api.Set, To: 2, A: 2},
		{Op: api.Copy, To: 0, A: 1},
		{Op: api.Add, To: 3, A: 2, B: 0},
		{Op: api.Subtract, To: 1, A: 1, B: 3},
		{Op: api.Skip, To: 2, A: 0, B: 2},
		{Op: api.Least, To: 0, A: 0, B: 0},
		{Op: api.Greatest, To: 2, A: 3, B: 1},
	}
	to := []int{2, 0, 3, 1}
	if q, e := code.Rename(p, to); e != api.OK || !slices.Equal(q, want) {
		t.Error("P1.5:", q, e)
	}
	if q, e := code.Rename(nil, to); e != api.OK || len(q) != 0 {
		t.Error("P1.5:", q, e)
	}
	if in, e := code.Move([]int{4, -5, 6, 7}, to); e != api.OK || !slices.Equal(in, []int{-5, 7, 4, 6}) {
		t.Error("P1.5:", in, e)
	}
}

func TestErrorsOfNames(t *testing.T) {
	for _, to := range [][]int{
		nil, {}, {0, 1, 2}, {0, 1, 2, 3, 3}, {0, 1, 2, 3, 4}, {0, 1, 2, 2}, {3, 3, 3, 3}, {1, 2, 3, 4}, {-1, 0, 1, 2},
		{0, 1, 2, math.MaxInt}, {math.MinInt, 1, 2, 3},
	} {
		if q, e := code.Rename(sample.Six(), to); e != api.ErrArg || len(q) != 0 {
			t.Error("P1.5:", to, q, e)
		}
		if _, e := code.Rename(sample.TooLong(), to); e != api.ErrLarge {
			t.Error("R2:", to, e)
		}
		if in, e := code.Move(sample.Zeros(), to); e != api.ErrArg || len(in) != 0 {
			t.Error("P1.5:", to, in, e)
		}
	}
	for _, in := range [][]int{nil, {0, 0, 0}, {0, 0, 0, 0, 0}, {0, 0, 0, 1000}, {-1000, 0, 0, 0}} {
		if got, e := code.Move(in, []int{0, 1, 2, 3}); e != api.ErrArg || len(got) != 0 {
			t.Error("P1.1:", in, got, e)
		}
	}
}

// TestRenameIsMove is the first consequence of P1.5.
func TestRenameIsMove(t *testing.T) {
	m := sample.New()
	if len(orders()) != 24 {
		t.Fatal("the test knows", len(orders()), "orders")
	}
	for _, to := range orders() {
		for range 200 {
			p, in := m.Program(), m.State()
			q, e := code.Rename(p, to)
			moved, f := code.Move(in, to)
			if e != api.OK || f != api.OK {
				t.Fatal("P1.5:", to, e, f)
			}
			got, _ := code.Run(q, moved)
			end, _ := code.Run(p, in)
			want, _ := code.Move(end, to)
			if !slices.Equal(got, want) {
				t.Fatalf("P1.5: %v from %v, names %v: %v instead of %v", p, in, to, got, want)
			}
		}
	}
}

func TestJoin(t *testing.T) {
	p, q := sample.Six(), []api.Line{{Op: api.Copy, To: 1, A: 0}}
	if l, e := code.Join(p, q); e != api.OK || !slices.Equal(l, []api.Line{p[0], p[1], q[0]}) {
		t.Error("P1.5:", l, e)
	}
	if l, e := code.Join(nil, q); e != api.OK || !slices.Equal(l, q) {
		t.Error("P1.5:", l, e)
	}
	if l, e := code.Join(p, nil); e != api.OK || !slices.Equal(l, p) {
		t.Error("P1.5:", l, e)
	}
	for n := range 9 {
		if l, e := code.Join(make([]api.Line, n), make([]api.Line, 8-n)); e != api.OK || len(l) != 8 {
			t.Error("P1.5: 8 lines:", n, l, e)
		}
		if l, e := code.Join(make([]api.Line, n), make([]api.Line, min(9-n, 8))); n > 0 && (e != api.ErrLarge || len(l) != 0) {
			t.Error("P1.5: 9 lines:", n, l, e)
		}
	}
}

// TestJoinRuns is the second consequence of P1.5.
func TestJoinRuns(t *testing.T) {
	m := sample.New()
	joined := 0
	for range 20000 {
		p, q, in := m.Program(), m.Program(), m.State()
		fits := len(p)+len(q) <= 8
		for place, l := range p {
			fits = fits && !(l.Op == api.Skip && place+l.To >= len(p))
		}
		if !fits {
			continue
		}
		joined++
		l, e := code.Join(p, q)
		got, f := code.Run(l, in)
		middle, _ := code.Run(p, in)
		want, _ := code.Run(q, middle)
		if e != api.OK || f != api.OK || !slices.Equal(got, want) {
			t.Fatalf("P1.5: %v and %v from %v: %v instead of %v", p, q, in, got, want)
		}
	}
	if joined < 1000 {
		t.Error("too few pairs:", joined)
	}
}
