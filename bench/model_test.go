package bench_test

import (
	"fmt"
	"math/big"
	"regexp"
	"slices"
	"strings"

	"tinker/api"
	"tinker/code"
	"tinker/sample"
	"tinker/seek"
)

// modelTest is a test and whether it is locked.
type modelTest struct {
	api.Test
	locked bool
}

// model is a bench that gets its orders as words and numbers.
type model struct {
	programs      [][]api.Line // the first one, and that after each repair
	history       [][]api.Edit
	tests         []modelTest
	fixes, checks int
	orders        []string
}

func newModel(p []api.Line) *model {
	return &model{programs: [][]api.Line{slices.Clone(p)}}
}

// program returns the program as it is now.
func (m *model) program() []api.Line { return m.programs[len(m.programs)-1] }

// fails reports whether a program fails a test.
func fails(p []api.Line, t api.Test) bool {
	end, _ := code.Run(p, t.In)
	return end[t.Out] != t.Want
}

// failing returns the tests that fail.
func (m *model) failing() []int {
	return m.which(func(t modelTest) bool { return fails(m.program(), t.Test) })
}

func (m *model) locked() []int { return m.which(func(t modelTest) bool { return t.locked }) }

func (m *model) which(is func(t modelTest) bool) []int {
	var set []int
	for n, t := range m.tests {
		if is(t) {
			set = append(set, n)
		}
	}
	return set
}

func (m *model) list() []api.Test {
	var l []api.Test
	for _, t := range m.tests {
		l = append(l, t.Test)
	}
	return l
}

// breaksLock reports whether a program fails a locked test.
func (m *model) breaksLock(p []api.Line) bool {
	return slices.ContainsFunc(m.tests, func(t modelTest) bool { return t.locked && fails(p, t.Test) })
}

// text writes an order.
func text(word string, numbers ...int) string {
	for _, n := range numbers {
		word += fmt.Sprintf(" %d", n)
	}
	return word
}

// do executes an order whose words are right.
func (m *model) do(word string, n ...int) api.Errno {
	order := text(word, n...)
	if len(order) > 30 {
		return api.ErrSyntax
	}
	if len(m.orders) == 80 {
		return api.ErrLarge
	}
	e := map[string]func(n []int) api.Errno{"put": m.put, "undo": m.undo, "test": m.test, "forget": m.forget, "lock": m.lock, "fix": m.fix, "check": m.check}[word](n)
	if e == api.OK {
		m.orders = append(m.orders, order)
	}
	return e
}

func (m *model) put(n []int) api.Errno {
	p, at, l := m.program(), n[0], api.Line{Op: n[1], To: n[2], A: n[3], B: n[4]}
	if at < 0 || at >= len(p) {
		return api.ErrNone
	}
	q := slices.Concat(p[:at], []api.Line{l}, p[at+1:])
	switch {
	case !slices.Contains(sample.Lines(), l):
		return api.ErrArg
	case slices.Equal(p, q):
		return api.ErrTwice
	case len(m.history) == 8:
		return api.ErrLarge
	case m.breaksLock(q):
		return api.ErrRule
	}
	m.repair(q, []api.Edit{{At: at, Line: l}})
	return api.OK
}

func (m *model) repair(q []api.Line, x []api.Edit) {
	m.programs = append(m.programs, q)
	m.history = append(m.history, x)
}

func (m *model) undo([]int) api.Errno {
	n := len(m.history)
	if n == 0 {
		return api.ErrState
	}
	if m.breaksLock(m.programs[n-1]) {
		return api.ErrRule
	}
	m.programs, m.history = m.programs[:n], m.history[:n-1]
	return api.OK
}

func (m *model) test(n []int) api.Errno {
	if n[4] < 0 || n[4] > 3 {
		return api.ErrArg
	}
	if len(m.tests) == 8 {
		return api.ErrLarge
	}
	m.tests = append(m.tests, modelTest{Test: api.Test{In: n[:4], Out: n[4], Want: n[5]}})
	return api.OK
}

func (m *model) forget(n []int) api.Errno {
	switch i := n[0]; {
	case i < 0 || i >= len(m.tests):
		return api.ErrNone
	case m.tests[i].locked:
		return api.ErrState
	}
	m.tests = slices.Concat(m.tests[:n[0]], m.tests[n[0]+1:])
	return api.OK
}

func (m *model) lock(n []int) api.Errno {
	switch i := n[0]; {
	case i < 0 || i >= len(m.tests):
		return api.ErrNone
	case m.tests[i].locked:
		return api.ErrTwice
	case fails(m.program(), m.tests[i].Test):
		return api.ErrState
	}
	m.tests[n[0]].locked = true
	return api.OK
}

func (m *model) fix([]int) api.Errno {
	if len(m.failing()) == 0 {
		return api.ErrState
	}
	if len(m.history) == 8 {
		return api.ErrLarge
	}
	x, _, some, _ := seek.Repair(m.program(), m.list())
	if !some {
		return api.ErrNone
	}
	q := slices.Clone(m.program())
	for _, edit := range x {
		q[edit.At] = edit.Line
	}
	m.repair(q, x)
	m.fixes++
	return api.OK
}

func (m *model) check([]int) api.Errno {
	if len(m.tests) == 0 {
		return api.ErrState
	}
	if len(m.failing()) > 0 {
		return api.ErrProof
	}
	m.checks++
	return api.OK
}

// modelSum is a number with the digits of a text, which are from 1 to 256, to the base 257.
func modelSum(before int, text string) int {
	sum := big.NewInt(int64(before))
	for i := range len(text) {
		sum.Mul(sum, big.NewInt(257))
		sum.Add(sum, big.NewInt(int64(text[i])+1))
	}
	return int(sum.Mod(sum, big.NewInt(1000003)).Int64())
}

// modelBook writes a book of any texts.
func modelBook(orders []string) string {
	book, sum := "", 0
	for _, order := range orders {
		sum = modelSum(sum, order)
		book += fmt.Sprintf("%d %s\n", sum, order)
	}
	return book
}

// modelRead tries each beginning of a text that ends with a line, the longest one first.
func modelRead(book string) ([]string, string) {
	line := regexp.MustCompile(`^[0-9]+ ((?s:.)+)\n$`)
	for n := strings.Count(book, "\n"); n > 0; n-- {
		var orders []string
		lines := strings.SplitAfterN(book, "\n", n+1)[:n]
		for _, l := range lines {
			if parts := line.FindStringSubmatch(l); parts != nil && len(parts[1]) <= 30 {
				orders = append(orders, parts[1])
			}
		}
		if begin := strings.Join(lines, ""); n <= 80 && len(orders) == n && modelBook(orders) == begin {
			return orders, book[len(begin):]
		}
	}
	return nil, book
}
