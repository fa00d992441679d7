package bench_test

import (
	"slices"
	"strings"
	"testing"

	"tinker/api"
	"tinker/bench"
	"tinker/sample"
)

// wrongOrders are no orders.
func wrongOrders() []string {
	list := []string{
		"", " ", "\n", "x", "0", "putt 0 0 0 0 0", "Check", "CHECK", "chec", "checks", "check\n", "check ", " check", "check\x00", "check 0", "fix 0", "undo 1", "fix ", "lock", "forget", "lock ", "lock  0", " lock 0", "lock 0 ", "lock\t0", "lock 0\n", "lock 0 0", "forget 0 1", "put", "test",
		"put 0 0 0 0", "put 0 1 0 3 0 0", "put 0  1 0 3 0", "put 0 1 0 3 0 ", "put 0 1,0 3 0", "test 0 0 0 0 0", "test 0 0 0 0 0 0 0", "test 0 0 0 0 0 6 ", "test  0 0 0 0 0 6", "lock check", "lock lock", "put put 0 0 0 0",
		"test -999 -999 -999 -999 0 -999", "test 100 -999 -999 -999 -999 10", strings.Repeat("x", 31), "check" + strings.Repeat(" ", 25), strings.Repeat("check", 100000),
	}
	for _, n := range []string{
		"-", "+0", "-0", "00", "01", "-01", "007", "+1", "1000", "-1000", "1e1", "0x1", "1_0", "1.0", "a", "N", "0a", "--1", "1-", "٣", "99999999999999999999", "-9223372036854775809", "9223372036854775808", "\x00", "0\r",
	} {
		list = append(list, "lock "+n, "forget "+n)
		for i := range 6 {
			numbers := []string{"0", "0", "0", "0", "0", "0"}
			numbers[i] = n
			list = append(list, "test "+strings.Join(numbers, " "))
			if i < 5 {
				list = append(list, "put "+strings.Join(numbers[:5], " "))
			}
		}
	}
	return list
}

// TestSyntax: what is no order is ErrSyntax, whatever the bench has.
func TestSyntax(t *testing.T) {
	for _, b := range []*bench.Bench{begun(t, nil), begun(t, sample.Six(), "test 0 0 0 0 0 6", "lock 0"), full(t)} {
		before := show(b)
		for _, order := range wrongOrders() {
			do(t, b, order, api.ErrSyntax)
		}
		if !show(b).equals(before) || !b.Audit() {
			t.Error("R3:", show(b))
		}
	}
}

// full has a book with as many orders as there may be.
func full(t *testing.T) *bench.Bench {
	b := begun(t, sample.Six(), "test 0 0 0 0 0 6")
	for range api.MaxPages - 1 {
		do(t, b, "check", api.OK)
	}
	return b
}

// TestFull: a full book comes before all errors of the order.
func TestFull(t *testing.T) {
	b := full(t)
	before := show(b)
	for _, order := range []string{
		"check", "fix", "undo", "lock 0", "lock 9", "forget 0", "forget -1", "test 0 0 0 0 0 6", "test 0 0 0 0 4 6", "put 0 1 0 4 0", "put 9 0 0 0 0", "put 0 9 0 0 0", "put 0 1 0 3 0",
	} {
		do(t, b, order, api.ErrLarge)
	}
	if !show(b).equals(before) || !b.Audit() || before.checks != 79 {
		t.Error("R3:", show(b))
	}
}

// TestLong: the longest orders, and the greatest and smallest numbers.
func TestLong(t *testing.T) {
	for order, want := range map[string]api.Errno{
		"test -999 -999 -999 -99 3 -999": api.OK, "test 100 -999 -999 -999 -999 1": api.ErrArg, "test 999 999 999 999 0 -999": api.OK, "test -999 999 -999 999 3 999": api.OK, "test 999 999 999 999 -999 999": api.ErrArg,
		"put -999 -999 -999 -999 -999": api.ErrNone, "put 999 999 999 999 999": api.ErrNone, "put 0 -999 -999 -999 -999": api.ErrArg, "put 1 999 999 999 999": api.ErrArg,
		"lock -999": api.ErrNone, "lock 999": api.ErrNone, "forget -999": api.ErrNone, "forget 999": api.ErrNone,
	} {
		do(t, begun(t, sample.Six()), order, want)
	}
	b := begun(t, sample.Six(), "test -999 -999 -999 -99 3 -999", "test 1 2 3 4 0 6")
	if !slices.EqualFunc(b.Tests(), []api.Test{{In: []int{-999, -999, -999, -99}, Out: 3, Want: -999}, {In: []int{1, 2, 3, 4}, Want: 6}}, sameTest) || !slices.Equal(b.Failing(), []int{0}) {
		t.Error("P9.2:", b.Tests(), b.Failing())
	}
}

// eightRepairs are orders that fill the history; the line 0 of sample.Six is Set 0 to 2 then.
func eightRepairs() []string {
	return slices.Repeat([]string{"put 0 1 0 1 0", "put 0 1 0 2 0"}, 4)
}

// TestErrors: of each order, the errors that apply at the same time, in their order.
func TestErrors(t *testing.T) {
	lockedFour := append([]string{"test 0 0 0 0 0 4"}, append(eightRepairs(), "lock 0")...)
	eightTests := slices.Repeat([]string{"test 0 0 0 0 0 6"}, 8)
	for _, x := range []struct {
		what   string
		orders []string
		want   map[string]api.Errno
	}{
		{"a new bench", nil, map[string]api.Errno{
			"undo": api.ErrState, "fix": api.ErrState, "check": api.ErrState, "lock 0": api.ErrNone, "forget 0": api.ErrNone,
			"put 2 1 0 1 0": api.ErrNone, "put -1 1 0 1 0": api.ErrNone, "put 2 8 0 0 0": api.ErrNone, "put 8 0 0 0 0": api.ErrNone,
			"put 0 8 0 0 0": api.ErrArg, "put 0 -1 0 0 0": api.ErrArg, "put 0 1 0 10 0": api.ErrArg, "put 0 1 0 3 1": api.ErrArg, "put 1 7 0 0 0": api.ErrArg, "put 1 7 9 0 0": api.ErrArg, "put 1 0 1 0 0": api.ErrArg, "put 1 3 0 4 0": api.ErrArg,
			"put 0 1 0 3 0": api.ErrTwice, "put 1 3 0 0 0": api.ErrTwice, "put 1 7 8 3 2": api.OK,
			"test 0 0 0 0 4 0": api.ErrArg, "test 0 0 0 0 -1 0": api.ErrArg,
		}},
		{"a full history", eightRepairs(), map[string]api.Errno{
			"put 2 1 0 2 0": api.ErrNone, "put 0 1 4 2 0": api.ErrArg, "put 0 1 0 2 0": api.ErrTwice, "put 0 1 0 3 0": api.ErrLarge, "fix": api.ErrState, "undo": api.OK,
		}},
		{"a full history and a locked test", lockedFour, map[string]api.Errno{
			"put 0 1 0 2 0": api.ErrTwice, "put 0 1 0 3 0": api.ErrLarge, "put 1 0 0 0 0": api.ErrLarge, "fix": api.ErrState, "check": api.OK, "undo": api.ErrRule, "lock 0": api.ErrTwice, "forget 0": api.ErrState,
		}},
		{"a full history, a locked test and one that no repair makes pass", append(lockedFour, "test 0 0 0 0 0 7"), map[string]api.Errno{
			"fix": api.ErrLarge, "check": api.ErrProof, "lock 1": api.ErrState, "forget 1": api.OK, "forget 2": api.ErrNone,
		}},
		{"tests that no repair makes pass", []string{"test 0 0 0 0 0 6", "lock 0", "test 0 0 0 0 0 7"}, map[string]api.Errno{
			"fix": api.ErrNone, "check": api.ErrProof, "put 0 1 0 4 0": api.ErrRule, "put 0 1 0 3 0": api.ErrTwice, "undo": api.ErrState, "lock -1": api.ErrNone, "lock 2": api.ErrNone,
		}},
		{"as many tests as there may be", eightTests, map[string]api.Errno{
			"test 0 0 0 0 0 6": api.ErrLarge, "test 0 0 0 0 4 6": api.ErrArg, "check": api.OK, "lock 7": api.OK, "lock 8": api.ErrNone, "forget 7": api.OK, "forget 8": api.ErrNone,
		}},
	} {
		for order, want := range x.want {
			b := begun(t, sample.Six(), x.orders...)
			before := show(b)
			do(t, b, order, want)
			if want != api.OK && !show(b).equals(before) || !b.Audit() {
				t.Error("R3:", x.what, order, show(b))
			}
		}
	}
}

// TestNoLines: a program without lines has no place for a repair.
func TestNoLines(t *testing.T) {
	b := begun(t, nil, "test 0 0 0 0 0 6")
	for order, want := range map[string]api.Errno{"put 0 0 0 0 0": api.ErrNone, "fix": api.ErrNone, "undo": api.ErrState, "lock 0": api.ErrState} {
		do(t, b, order, want)
	}
}

// TestLocks: a test that is left out moves those behind it, and their locks; what makes a locked test fail is refused, all else is not.
func TestLocks(t *testing.T) {
	b := begun(t, sample.Six(), "test 0 0 0 0 0 1", "test 0 0 0 0 0 6", "test 0 5 0 0 1 5", "test 0 0 7 0 2 7", "lock 3", "lock 1", "forget 2", "forget 0")
	if !slices.Equal(b.Locked(), []int{0, 1}) || !slices.EqualFunc(b.Tests(), []api.Test{{In: sample.Zeros(), Want: 6}, {In: []int{0, 0, 7, 0}, Out: 2, Want: 7}}, sameTest) {
		t.Error("P9.2:", b.Locked(), b.Tests())
	}
	for _, x := range []struct {
		order string
		want  api.Errno
	}{
		{"put 0 1 0 4 0", api.ErrRule}, {"put 1 1 0 6 0", api.OK}, {"put 0 1 0 4 0", api.OK}, {"undo", api.OK}, {"put 0 1 2 8 0", api.ErrRule}, {"put 0 1 2 7 0", api.OK},
		{"undo", api.OK}, {"undo", api.OK}, {"undo", api.ErrState}, {"put 1 1 0 5 0", api.ErrRule}, {"test 0 0 0 0 0 5", api.OK}, {"fix", api.ErrNone}, {"forget 2", api.OK}, {"forget 1", api.ErrState},
	} {
		do(t, b, x.order, x.want)
		if slices.Contains(b.Failing(), 0) || slices.Contains(b.Failing(), 1) || !slices.Equal(b.Locked(), []int{0, 1}) || !b.Audit() {
			t.Error("S9:", x.order, show(b))
		}
	}
}

// TestUndo: fixes and repairs by hand are taken back one by one; what was counted stays counted.
func TestUndo(t *testing.T) {
	b := begun(t, sample.Six(), "test 0 0 0 0 0 8", "fix", "put 1 1 0 8 0", "check", "put 0 0 0 0 0")
	for _, want := range [][]api.Line{{set(4), set(8)}, {set(4), {Op: api.Add}}, sample.Six()} {
		do(t, b, "undo", api.OK)
		if fixes, checks := b.Counts(); !slices.Equal(b.Program(), want) || fixes != 1 || checks != 1 || !b.Audit() {
			t.Error("P9.1:", show(b))
		}
	}
	do(t, b, "undo", api.ErrState)
	do(t, b, "fix", api.OK)
	do(t, b, "lock 0", api.OK)
	do(t, b, "undo", api.ErrRule)
	if fixes, _ := b.Counts(); fixes != 2 || len(b.History()) != 1 {
		t.Error("P9.3:", show(b))
	}
}

// TestFix: a repair of each number from package seek; it is one repair of the history.
func TestFix(t *testing.T) {
	twice := api.Line{Op: api.Add, To: 1, A: 1, B: 1}
	for _, x := range []struct {
		what   string
		p      []api.Line
		orders []string
		want   []api.Edit
	}{
		{"a template", sample.Six(), []string{"test 0 0 0 0 0 8"}, []api.Edit{{At: 0, Line: set(4)}}},
		{"a line of the program", []api.Line{{}, twice}, []string{"test 0 1 0 0 1 4"}, []api.Edit{{At: 0, Line: twice}}},
		{"one of all lines", sample.Six(), []string{"test 0 0 0 0 0 7"}, []api.Edit{{At: 1, Line: set(7)}}},
		{"two templates", []api.Line{set(3), {Op: api.Set, To: 1, A: 3}}, []string{"test 0 0 0 0 0 4", "test 0 0 0 0 1 2"}, []api.Edit{{At: 0, Line: set(4)}, {At: 1, Line: api.Line{Op: api.Set, To: 1, A: 2}}}},
	} {
		b := begun(t, x.p, x.orders...)
		do(t, b, "fix", api.OK)
		if h := b.History(); len(h) != 1 || !slices.Equal(h[0], x.want) || len(b.Failing()) > 0 || !b.Audit() {
			t.Error("P9.3:", x.what, show(b))
		}
	}
}

// maker makes orders for a model.
type maker struct{ *sample.Maker }

// order returns the word and the numbers of an order. Most of them are not refused.
func (m maker) order(bench *model) (string, []int) {
	p := bench.program()
	near := func(n int) int {
		if n > 0 && m.Below(8) > 0 {
			return m.Below(n)
		}
		return []int{-1, n}[m.Below(2)]
	}
	switch m.Below(10) {
	case 0, 1, 2:
		at, l := near(len(p)), m.Line()
		if m.Below(8) == 0 {
			l.A += 3
		}
		if at >= 0 && at < len(p) && m.Below(8) == 0 {
			l = p[at]
		}
		return "put", []int{at, l.Op, l.To, l.A, l.B}
	case 3, 4:
		t := m.Test(p)
		if m.Below(8) == 0 {
			t.Out = 4
		}
		return "test", append(t.In, t.Out, t.Want)
	case 5:
		return "forget", []int{near(len(bench.tests))}
	case 6:
		return "lock", []int{near(len(bench.tests))}
	}
	return []string{"undo", "fix", "check"}[m.Below(3)], nil
}

// TestMany holds benches against the model, order by order, and the replay of each beginning of a book against what the bench was.
func TestMany(t *testing.T) {
	m := maker{sample.New()}
	kinds := map[string]map[api.Errno]int{}
	for range 150 {
		p := m.Program()
		b, model := begun(t, p), newModel(p)
		past := []shown{show(b)}
		for range m.Below(90) {
			word, numbers := m.order(model)
			want, e := model.do(word, numbers...), b.Do(text(word, numbers...))
			got := show(b)
			if e != want || !got.equals(model.shown()) {
				t.Fatal("P9.1 to P9.4:", p, model.orders, text(word, numbers...), e, want, got, model.shown())
			}
			if e == api.OK {
				past = append(past, got)
			}
			if kinds[word] == nil {
				kinds[word] = map[api.Errno]int{}
			}
			kinds[word][e]++
		}
		if !b.Audit() {
			t.Fatal("P9.4: Audit:", p, model.orders)
		}
		holdReplays(t, p, b.Book(), past)
	}
	for word, errors := range map[string][]api.Errno{
		"put": {api.OK, api.ErrNone, api.ErrArg, api.ErrTwice, api.ErrLarge, api.ErrRule}, "undo": {api.OK, api.ErrState, api.ErrRule}, "test": {api.OK, api.ErrArg, api.ErrLarge},
		"forget": {api.OK, api.ErrNone, api.ErrState}, "lock": {api.OK, api.ErrNone, api.ErrTwice, api.ErrState}, "fix": {api.OK, api.ErrState, api.ErrNone}, "check": {api.OK, api.ErrState, api.ErrProof},
	} {
		for _, e := range errors {
			if kinds[word][e] < 10 {
				t.Error("too few of a kind:", word, e, kinds[word])
			}
		}
	}
}

// holdReplays replays the first lines of a book: the past has what the bench was before each order and after the last one.
func holdReplays(t *testing.T, p []api.Line, book string, past []shown) {
	t.Helper()
	lines := strings.SplitAfter(book, "\n")
	for n, want := range past {
		again, count, e := bench.Replay(p, strings.Join(lines[:n], ""))
		if e != api.OK || count != n || !show(again).equals(want) {
			t.Fatal("P9.6, S9:", p, lines[:n], count, e)
		}
		if n%16 == 0 && !again.Audit() {
			t.Fatal("S9:", p, lines[:n])
		}
	}
}
