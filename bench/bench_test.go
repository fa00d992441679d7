package bench_test

import (
	"slices"
	"strings"
	"sync"
	"testing"

	"tinker/api"
	"tinker/bench"
	"tinker/sample"
)

// set is a line that sets the register 0.
func set(n int) api.Line { return api.Line{Op: api.Set, A: n} }

// begun is a bench with a program, which has done orders.
func begun(t *testing.T, p []api.Line, orders ...string) *bench.Bench {
	t.Helper()
	b, e := bench.New(p)
	if e != api.OK {
		t.Fatal(p, e)
	}
	for _, order := range orders {
		do(t, b, order, api.OK)
	}
	return b
}

func do(t *testing.T, b *bench.Bench, order string, want api.Errno) {
	t.Helper()
	if e := b.Do(order); e != want {
		t.Errorf("%q: %d instead of %d", order, e, want)
	}
}

// shown is all that a bench shows, but for Audit.
type shown struct {
	program       []api.Line
	tests         []api.Test
	locked        []int
	history       [][]api.Edit
	failing       []int
	fixes, checks int
	book          string
}

func show(b *bench.Bench) shown {
	fixes, checks := b.Counts()
	return shown{b.Program(), b.Tests(), b.Locked(), b.History(), b.Failing(), fixes, checks, b.Book()}
}

// shown is what a bench shows that has done the same orders as the model.
func (m *model) shown() shown {
	return shown{m.program(), m.list(), m.locked(), m.history, m.failing(), m.fixes, m.checks, modelBook(m.orders)}
}

func sameTest(t, u api.Test) bool {
	return slices.Equal(t.In, u.In) && t.Out == u.Out && t.Want == u.Want
}

func (s shown) equals(u shown) bool {
	return slices.Equal(s.program, u.program) && slices.EqualFunc(s.tests, u.tests, sameTest) && slices.Equal(s.locked, u.locked) &&
		slices.EqualFunc(s.history, u.history, slices.Equal) && slices.Equal(s.failing, u.failing) && s.fixes == u.fixes && s.checks == u.checks && s.book == u.book
}

// TestExamples is the first two examples of the document, one order after another.
func TestExamples(t *testing.T) {
	four := [][]api.Edit{{{At: 0, Line: set(4)}}}
	eight := []api.Test{{In: sample.Zeros(), Want: 8}}
	b := begun(t, sample.Six())
	for _, x := range []struct {
		order string
		want  api.Errno
		shown shown
	}{
		{"test 0 0 0 0 0 8", api.OK, shown{tests: eight, failing: []int{0}}},
		{"check", api.ErrProof, shown{tests: eight, failing: []int{0}}},
		{"fix", api.OK, shown{tests: eight, history: four, fixes: 1}},
		{"check", api.OK, shown{tests: eight, history: four, fixes: 1, checks: 1}},
		{"lock 0", api.OK, shown{tests: eight, history: four, fixes: 1, checks: 1, locked: []int{0}}},
		{"put 1 0 0 0 0", api.ErrRule, shown{tests: eight, history: four, fixes: 1, checks: 1, locked: []int{0}}},
		{"undo", api.ErrRule, shown{tests: eight, history: four, fixes: 1, checks: 1, locked: []int{0}}},
	} {
		do(t, b, x.order, x.want)
		x.shown.program, x.shown.book = sample.Six(), b.Book()
		if len(x.shown.history) > 0 {
			x.shown.program[0] = set(4)
		}
		if got := show(b); !got.equals(x.shown) || !b.Audit() {
			t.Error("P9.4:", x.order, got, x.shown)
		}
	}
	if book := modelBook([]string{"test 0 0 0 0 0 8", "fix", "check", "lock 0"}); b.Book() != book {
		t.Error("P9.5:", b.Book(), book)
	}
}

// TestNew: a new bench has a program alone; the errors are those of the program.
func TestNew(t *testing.T) {
	for _, p := range [][]api.Line{nil, {}, sample.Six(), make([]api.Line, 8), {{Op: api.Skip, To: 8, A: 3, B: 3}}} {
		b := begun(t, p)
		if got := show(b); !got.equals(shown{program: p}) || !b.Audit() {
			t.Error("P9.4:", p, got)
		}
	}
	for want, list := range map[api.Errno][][]api.Line{
		api.ErrLarge: {sample.TooLong(), append(sample.TooLong(), sample.BadLine())},
		api.ErrArg:   {{sample.BadLine()}, {set(1), set(10)}, {{To: 1}}},
	} {
		for _, p := range list {
			if b, e := bench.New(p); b != nil || e != want {
				t.Error("R2, R3: New:", p, b, e)
			}
		}
	}
}

// TestNoBench: a nil bench refuses all orders and shows nothing; an empty one is like one with an empty program.
func TestNoBench(t *testing.T) {
	var none *bench.Bench
	for _, order := range []string{"check", "test 0 0 0 0 0 0", "", "no order"} {
		do(t, none, order, api.ErrArg)
	}
	if got := show(none); !got.equals(shown{}) || none.Audit() {
		t.Error("a nil bench:", got)
	}
	empty := new(bench.Bench)
	do(t, empty, "test 0 0 0 0 0 0", api.OK)
	do(t, empty, "put 0 0 0 0 0", api.ErrNone)
	do(t, empty, "check", api.OK)
	if !show(empty).equals(show(begun(t, nil, "test 0 0 0 0 0 0", "check"))) || !empty.Audit() {
		t.Error("an empty bench:", show(empty))
	}
}

// TestMemory: a bench shares no memory with the program that it was made of, nor with what it returns.
func TestMemory(t *testing.T) {
	orders := []string{"test 0 0 0 0 0 8", "test 0 1 0 0 1 1", "fix", "put 1 3 0 0 0", "lock 1", "put 0 1 0 4 0", "test 0 0 0 0 0 1"}
	p := slices.Concat(sample.Six(), make([]api.Line, 4))
	b, _ := bench.New(p[:2])
	other, _ := bench.New(p[:2])
	clear(p)
	m := newModel(sample.Six())
	for range 3 {
		for _, order := range orders {
			var n []int
			words := strings.Split(order, " ")
			for _, word := range words[1:] {
				n = append(n, int(word[0]-'0'))
			}
			do(t, b, order, m.do(words[0], n...))
			got := show(b)
			if !got.equals(m.shown()) {
				t.Fatal("R5:", order, got, m.shown())
			}
			spoilShown(t, got)
		}
	}
	if !b.Audit() || !show(other).equals(shown{program: sample.Six()}) || !slices.Equal(p, make([]api.Line, 6)) {
		t.Error("R5:", show(b), show(other), p)
	}
	text := b.Book()
	again, _, e := bench.Replay(sample.Six(), text)
	if e != api.OK || !show(again).equals(show(b)) {
		t.Error("R5: Replay:", e, show(again))
	}
	list, _ := bench.Read(text)
	if !sample.SpoilWith(list, "x") {
		t.Error("R5: Read:", list)
	}
	if list, _ = bench.Read(text); modelBook(list) != text {
		t.Error("R5: Read:", list)
	}
}

// spoilShown overwrites all lists of a bench and the room behind them.
func spoilShown(t *testing.T, s shown) {
	t.Helper()
	for _, list := range slices.Concat([][]int{s.locked, s.failing}, ins(s.tests)) {
		if len(list) > 0 && !sample.Spoil(list) {
			t.Error("R5: a result is shared:", list)
		}
	}
	for _, x := range s.history {
		if !sample.SpoilWith(x, api.Edit{At: 77}) {
			t.Error("R5: a result is shared:", x)
		}
	}
	if !sample.SpoilWith(s.program, sample.BadLine()) {
		t.Error("R5: a result is shared:", s.program)
	}
	clear(s.tests[:cap(s.tests)])
	clear(s.history[:cap(s.history)])
}

// ins returns the states of tests.
func ins(l []api.Test) [][]int {
	var list [][]int
	for _, t := range l {
		list = append(list, t.In)
	}
	return list
}

// TestGoroutines: several goroutines use a bench at the same time. Each order is done at one moment: the book has just those that were not refused, and leads to the same bench.
func TestGoroutines(t *testing.T) {
	b := begun(t, sample.Six(), "test 0 0 0 0 0 8", "fix", "lock 0")
	var group sync.WaitGroup
	done := make([][]string, 6)
	for i := range done {
		group.Go(func() {
			orders := []string{"check", "test 0 0 0 0 1 0", "lock 1", "put 1 3 0 0 0", text("put", 0, 1, 0, i, 0), "forget 2", "undo", "put 1 0 0 0 0"}
			for n := range 40 {
				order := orders[(n+i)%len(orders)]
				if b.Do(order) == api.OK {
					done[i] = append(done[i], order)
				}
			}
		})
		group.Go(func() {
			for range 20 {
				if _, rest := bench.Read(b.Book()); rest != "" || !b.Audit() || slices.Contains(b.Failing(), 0) || !slices.Contains(b.Locked(), 0) {
					t.Error("S9: a bench between two moments:", rest)
				}
				show(b)
			}
		})
	}
	group.Wait()
	orders, _ := bench.Read(b.Book())
	want := slices.Concat(append(done, []string{"test 0 0 0 0 0 8", "fix", "lock 0"})...)
	slices.Sort(want)
	if got := slices.Sorted(slices.Values(orders)); !slices.Equal(got, want) || !b.Audit() {
		t.Error("P9.4: the orders that were done are not those of the book:", got, want)
	}
	if again, n, e := bench.Replay(sample.Six(), b.Book()); e != api.OK || n != len(want) || !show(again).equals(show(b)) {
		t.Error("S9:", n, e)
	}
}

// TestSameMoment: goroutines do one order all the time. None of what is done gets lost, and the book gets no more than it may have.
func TestSameMoment(t *testing.T) {
	for range 50 {
		b := begun(t, sample.Six(), "test 0 0 0 0 0 6")
		var group sync.WaitGroup
		var done [8]int
		start := make(chan bool)
		for i := range done {
			group.Go(func() {
				<-start
				for range 20 {
					if b.Do("check") == api.OK {
						done[i]++
					}
				}
			})
		}
		close(start)
		group.Wait()
		sum := 0
		for _, n := range done {
			sum += n
		}
		orders, _ := bench.Read(b.Book())
		if _, checks := b.Counts(); sum != 79 || checks != 79 || len(orders) != 80 {
			t.Fatal("two orders are done at the same moment:", sum, checks, len(orders))
		}
	}
}
