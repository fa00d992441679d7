package span_test

import (
	"slices"
	"testing"

	"tinker/api"
	"tinker/check"
	"tinker/sample"
	"tinker/span"
)

// proved is what the functions of P6.4 say of a program and a contract.
type proved struct {
	proves  bool
	each    [4]bool // by the register
	verdict int
	loss    int
}

// provedOf calls the functions of P6.4.
func provedOf(t *testing.T, p []api.Line, c api.Contract) proved {
	t.Helper()
	var x proved
	var codes [7]api.Errno
	x.proves, codes[0] = span.Proves(p, c)
	x.verdict, codes[1] = span.Verdict(p, c)
	x.loss, codes[2] = span.Loss(p, c)
	for register := range x.each {
		x.each[register], codes[3+register] = span.ProvesEach(p, c, register)
	}
	if codes != [7]api.Errno{} {
		t.Fatal("P6.4:", p, c, codes)
	}
	return x
}

func TestContracts(t *testing.T) {
	same := []api.Line{{Op: api.Subtract, To: 0, A: 1, B: 1}}
	rest := []api.Line{skip(1, 0, 1), {Op: api.Copy, To: 1, A: 0}, {Op: api.Subtract, To: 0, A: 1, B: 0}}
	none, all := [4]bool{}, [4]bool{true, true, true, true}
	low := api.Contract{Low: []int{-3, 0, 0, 0}, High: []int{-1, 0, 0, 0}, Out: 0, Min: -3, Max: -1}
	out := api.Contract{Low: []int{0, 0, 0, 2}, High: []int{0, 9, 0, 4}, Out: 3, Min: 2, Max: 4}
	for _, x := range []struct {
		what string
		p    []api.Line
		c    api.Contract
		want proved
	}{
		{"the document's example", same, upTo(-5, 5, 0, 5, 0, 0), proved{true, all, 1, 10}},
		{"one that needs each number", same, upTo(0, 0, 0, 5, 0, 0), proved{false, [4]bool{1: true}, 0, 10}},
		{"a Min just too great", same, upTo(-4, 5, 0, 5, 0, 0), proved{false, [4]bool{1: true}, 0, 10}},
		{"a Max just too small", same, upTo(-5, 4, 0, 5, 0, 0), proved{false, [4]bool{1: true}, 0, 10}},
		{"one that is not kept", same, upTo(1, 1, 0, 5, 0, 0), proved{false, none, -1, 10}},
		{"a register of one number", same, upTo(0, 0, 4, 0, 4, 4), proved{true, all, 1, 0}},
		{"no lines", nil, upTo(0, 3, 3, 0, 0, 0), proved{true, all, 1, 0}},
		{"no lines, not kept by the last number alone", nil, upTo(0, 2, 3, 0, 0, 0), proved{false, none, -1, 0}},
		{"no lines, not kept by the first number alone", nil, upTo(1, 3, 3, 0, 0, 0), proved{false, none, -1, 0}},
		{"numbers below 0", nil, low, proved{true, all, 1, 0}},
		{"another register", nil, out, proved{true, all, 1, 0}},
		{"one that no register alone proves", rest, upTo(0, 3, 3, 3, 0, 0), proved{false, none, 0, 3}},
	} {
		if got := provedOf(t, x.p, x.c); got != x.want {
			t.Errorf("P6.4: %s: %v instead of %v", x.what, got, x.want)
		}
	}
}

// modelProved says what is proved by the boxes of the model.
func modelProved(p []api.Line, c api.Contract) proved {
	proves := func(b []api.Range) bool {
		end := modelBoxes(p, b)[len(p)][c.Out]
		return end.Low >= c.Min && end.High <= c.Max
	}
	b := modelOf(c)
	x := proved{proves: proves(b)}
	for register := range x.each {
		x.each[register] = true
		for n := c.Low[register]; n <= c.High[register]; n++ {
			one := slices.Clone(b)
			one[register] = api.Range{Low: n, High: n}
			x.each[register] = x.each[register] && proves(one)
		}
	}
	if kept, _ := check.Keeps(p, c); !kept {
		x.verdict = -1
	}
	if x.proves {
		x.verdict = 1
	}
	least, most, _ := check.Extremes(p, c)
	end := modelBoxes(p, b)[len(p)][c.Out]
	x.loss = (end.High - end.Low) - (most - least)
	return x
}

// toProve returns a program and a contract whose Min and Max are any, or just those of the states or of the spans, or one less.
func toProve(m *sample.Maker) ([]api.Line, api.Contract) {
	p, c := m.Program(), m.Contract()
	switch m.Below(4) {
	case 0:
		c.Min, c.Max, _ = check.Extremes(p, c)
	case 1:
		end := modelBoxes(p, modelOf(c))[len(p)][c.Out]
		c.Min, c.Max = end.Low, end.High
	case 2:
		end := modelBoxes(p, modelOf(c))[len(p)][c.Out]
		c.Min = min(end.Low+m.Below(2), end.High)
		c.Max = max(end.High-m.Below(2), c.Min)
	}
	return p, c
}

// TestProofsOfMany holds P6.4, with its consequences, against the model.
func TestProofsOfMany(t *testing.T) {
	m := sample.New()
	verdicts, each, losses := map[int]int{}, 0, 0
	for range 3000 {
		p, c := toProve(m)
		x := provedOf(t, p, c)
		if want := modelProved(p, c); x != want {
			t.Fatalf("P6.4: %v, %v: %v instead of %v", p, c, x, want)
		}
		kept, _ := check.Keeps(p, c)
		for _, is := range x.each {
			if x.proves && !is || is && !kept {
				t.Fatal("S6:", p, c, x, kept)
			}
			if is && !x.proves {
				each++
			}
		}
		if x.loss < 0 {
			t.Fatal("P6.4: Loss below 0:", p, c, x)
		}
		if x.loss > 0 {
			losses++
		}
		verdicts[x.verdict]++
	}
	if verdicts[-1] < 100 || verdicts[0] < 50 || verdicts[1] < 100 || each < 50 || losses < 100 {
		t.Error("too few contracts of a kind:", verdicts, each, losses)
	}
}
