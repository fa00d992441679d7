package bench

import (
	"testing"

	"tinker/api"
	"tinker/sample"
)

// TestAudit spoils a bench in each way that Audit must find. No order does this, so the test is within the package.
func TestAudit(t *testing.T) {
	orders := []string{"test 0 0 0 0 0 8", "fix", "check", "lock 0", "test 0 0 0 0 1 0", "put 1 1 0 8 0"}
	four := api.Line{Op: api.Set, A: 4}
	for what, spoil := range map[string]func(s *state){
		"another first program":        func(s *state) { s.first = []api.Line{four, {Op: api.Add}} },
		"no first program":             func(s *state) { s.first = nil },
		"another program":              func(s *state) { s.program = sample.Six() },
		"a program that does the same": func(s *state) { s.program = []api.Line{s.program[1], s.program[1]} },
		"a state of a test":            func(s *state) { s.tests[1].In[3] = 1 },
		"a register of a test":         func(s *state) { s.tests[1].Out = 2 },
		"a number that is wanted":      func(s *state) { s.tests[1].Want = 1 },
		"a locked test that fails":     func(s *state) { s.tests[0].Want = 6 },
		"a test less":                  func(s *state) { s.tests, s.locked = s.tests[:1], s.locked[:1] },
		"a test more":                  func(s *state) { s.tests, s.locked = with(s.tests, s.tests[0]), with(s.locked, false) },
		"a lock less":                  func(s *state) { s.locked[0] = false },
		"a lock more":                  func(s *state) { s.locked[1] = true },
		"a repair less":                func(s *state) { s.history = s.history[:1] },
		"a repair more":                func(s *state) { s.history = with(s.history, s.history[1]) },
		"another repair":               func(s *state) { s.history[0][0].Line.A = 5 },
		"a fix more":                   func(s *state) { s.fixes++ },
		"a check more":                 func(s *state) { s.checks++ },
		"an order less":                func(s *state) { s.orders = s.orders[:5] },
		"an order more":                func(s *state) { s.orders = with(s.orders, "undo") },
		"an order that is refused":     func(s *state) { s.orders = with(s.orders, "lock 0") },
		"an order with a line feed":    func(s *state) { s.orders = with(s.orders, "check\n") },
		"another order":                func(s *state) { s.orders[5] = "put 1 1 0 9 0" },
	} {
		b, _ := New(sample.Six())
		for _, order := range orders {
			if e := b.Do(order); e != api.OK {
				t.Fatal(order, e)
			}
		}
		if !b.Audit() {
			t.Fatal("P9.4: Audit of a bench as it should be")
		}
		spoil(&b.now)
		if b.Audit() {
			t.Error("P9.4: Audit does not find:", what)
		}
	}
}

// TestMoments: a state stays as it is while later orders are done, as one goroutine may look at it while others go on.
func TestMoments(t *testing.T) {
	s, _ := begin(sample.Six())
	moments := []state{s}
	for _, order := range []string{
		"test 0 0 0 0 1 0", "test 0 0 0 0 2 0", "test 0 0 0 0 0 8", "lock 1", "lock 0", "put 0 1 0 5 0", "put 0 1 0 6 0", "undo", "put 0 1 0 7 0", "undo", "undo", "fix", "forget 2", "test 0 0 0 0 0 8", "lock 2", "check", "test 0 0 0 0 3 0",
	} {
		next, err := s.after(order)
		if err != nil {
			t.Fatal(order, err)
		}
		s = next
		moments = append(moments, s)
	}
	for _, moment := range moments {
		if !moment.isSound() {
			t.Error("P9.4: a moment is changed:", moment)
		}
	}
}
