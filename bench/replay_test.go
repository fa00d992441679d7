package bench_test

import (
	"slices"
	"testing"

	"tinker/api"
	"tinker/bench"
	"tinker/sample"
)

// TestReplay: a book makes a bench; the errors are those of the program, of the book and of the first order that is refused, in this order.
func TestReplay(t *testing.T) {
	good := []string{"test 0 0 0 0 0 8", "fix", "check", "lock 0"}
	b, n, e := bench.Replay(sample.Six(), modelBook(good))
	if e != api.OK || n != 4 || !b.Audit() || !show(b).equals(show(begun(t, sample.Six(), good...))) {
		t.Error("P9.6: Replay:", n, e)
	}
	do(t, b, "undo", api.ErrRule)
	do(t, b, "check", api.OK)
	if b.Book() != modelBook(append(good, "check")) || !b.Audit() {
		t.Error("P9.6: a bench goes on after Replay:", b.Book())
	}
	if b, n, e := bench.Replay(sample.Six(), ""); e != api.OK || n != 0 || !show(b).equals(shown{program: sample.Six()}) {
		t.Error("P9.6: Replay of an empty book:", n, e)
	}
	checks := append([]string{"test 0 0 0 0 0 6"}, slices.Repeat([]string{"check"}, 80)...)
	if b, n, e := bench.Replay(sample.Six(), modelBook(checks[:80])); e != api.OK || n != 80 || !b.Audit() || b.Do("check") != api.ErrLarge {
		t.Error("P9.6: Replay of a full book:", n, e)
	}
	for _, x := range []struct {
		what string
		p    []api.Line
		book string
		n    int
		e    api.Errno
	}{
		{"a long program", sample.TooLong(), "x", 0, api.ErrLarge}, {"a bad line", []api.Line{sample.BadLine()}, modelBook([]string{"check"}), 0, api.ErrArg},
		{"no book", sample.Six(), "x", 0, api.ErrBroken}, {"a rest", sample.Six(), modelBook(good) + "x", 0, api.ErrBroken}, {"a rest behind an order that is refused", sample.Six(), modelBook([]string{"check", "x"}) + "\n", 0, api.ErrBroken}, {"too many orders", sample.Six(), modelBook(checks), 0, api.ErrBroken},
		{"the first one is refused", sample.Six(), modelBook([]string{"check", "x"}), 0, api.ErrState}, {"no order", sample.Six(), modelBook([]string{"x", "check"}), 0, api.ErrSyntax},
		{"the last one is refused", sample.Six(), modelBook(append(good, "lock 0")), 4, api.ErrTwice}, {"one of several", sample.Six(), modelBook([]string{"test 0 0 0 0 0 8", "lock 0", "lock 1", "x"}), 1, api.ErrState}, {"the last one of many", sample.Six(), modelBook(append(checks[:79:79], "fix")), 79, api.ErrState},
		{"another program", nil, modelBook(good), 1, api.ErrNone},
	} {
		if b, n, e := bench.Replay(x.p, x.book); b != nil || n != x.n || e != x.e {
			t.Errorf("P9.6: Replay: %s: %d, %d instead of %d, %d", x.what, n, e, x.n, x.e)
		}
	}
}

// TestRun: all orders are executed, also behind one that is refused.
func TestRun(t *testing.T) {
	m := maker{sample.New()}
	for range 100 {
		p := m.Program()
		model := newModel(p)
		var orders []string
		var want []api.Errno
		for range m.Below(50) {
			order, e := "no order", api.ErrSyntax
			if m.Below(10) > 0 {
				word, numbers := m.order(model)
				order, e = text(word, numbers...), model.do(word, numbers...)
			}
			orders, want = append(orders, order), append(want, e)
		}
		errs, book, e := bench.Run(p, orders)
		if e != api.OK || !slices.Equal(errs, want) || book != modelBook(model.orders) {
			t.Fatal("P9.6: Run:", p, orders, errs, want, book, e)
		}
	}
	if errs, book, e := bench.Run(nil, nil); e != api.OK || len(errs) != 0 || book != "" {
		t.Error("P9.6: Run of no orders:", errs, book, e)
	}
	if errs, book, e := bench.Run(nil, make([]string, 80)); e != api.OK || !slices.Equal(errs, slices.Repeat([]api.Errno{api.ErrSyntax}, 80)) || book != "" {
		t.Error("P9.6: Run of as many orders as there may be:", errs, book, e)
	}
	for _, x := range []struct {
		p      []api.Line
		orders []string
		want   api.Errno
	}{
		{nil, make([]string, 81), api.ErrLarge}, {sample.Six(), slices.Repeat([]string{"check"}, 5000), api.ErrLarge}, {sample.TooLong(), nil, api.ErrLarge}, {[]api.Line{sample.BadLine()}, make([]string, 81), api.ErrArg},
	} {
		if errs, book, e := bench.Run(x.p, x.orders); e != x.want || len(errs) != 0 || book != "" {
			t.Error("P9.6, R3: Run:", x.p, len(x.orders), errs, book, e)
		}
	}
}
