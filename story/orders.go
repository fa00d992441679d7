package story

import (
	"slices"

	"tinker/api"
	"tinker/kit"
	"tinker/patch"
)

// CheckOrder returns ErrProof if in an order a repair does not come behind all that it needs.
func CheckOrder(p []api.Line, h [][]api.Edit, order []int) api.Errno {
	if e := Validate(p, h); e != api.OK {
		return e
	}
	if !kit.IsOrder(order, len(h)) {
		return api.ErrArg
	}
	if !history(h).allows(order) {
		return api.ErrProof
	}
	return api.OK
}

// allows reports whether an order keeps the needs.
func (h history) allows(order []int) bool {
	var d done
	for _, n := range order {
		if !h.isReady(d, n) {
			return false
		}
		d = d.with(n)
	}
	return true
}

// PlayOrder returns the program after the repairs are done in an order that keeps the needs.
func PlayOrder(p []api.Line, h [][]api.Edit, order []int) ([]api.Line, api.Errno) {
	if e := CheckOrder(p, h, order); e != api.OK {
		return nil, e
	}
	q := slices.Clone(p)
	for _, n := range order {
		q, _ = patch.Do(q, h[n])
	}
	return q, api.OK
}

// CountOrders returns the number of orders that keep the needs.
func CountOrders(p []api.Line, h [][]api.Edit) (int, api.Errno) {
	if e := Validate(p, h); e != api.OK {
		return 0, e
	}
	return history(h).countOrders(), api.OK
}

// LastOrder returns the last one, in ascending order, of the orders that keep the needs.
func LastOrder(p []api.Line, h [][]api.Edit) ([]int, api.Errno) {
	if e := Validate(p, h); e != api.OK {
		return nil, e
	}
	return history(h).lastOrder(), api.OK
}

// done tells of each repair whether it is done.
type done [api.MaxRepairs]bool

func (d done) with(n int) done {
	d[n] = true
	return d
}

// isReady reports whether a repair is not done, but all that it needs directly is. What these need is done then, too.
func (h history) isReady(d done, n int) bool {
	return !d[n] && !slices.ContainsFunc(h.needs(n), func(m int) bool { return !d[m] })
}

// ready returns the set of the repairs that can be done next. It is empty only if all are done: the first one that is not needs none of the others.
func (h history) ready(d done) []int {
	is := make([]bool, len(h))
	for n := range is {
		is[n] = h.isReady(d, n)
	}
	return kit.Places(is)
}

func (h history) countOrders() int {
	// Many orders begin with the same repairs; in how many ways they go on is found once.
	known := map[done]int{}
	var count func(d done) int
	count = func(d done) int {
		if n, is := known[d]; is {
			return n
		}
		next := h.ready(d)
		if len(next) == 0 {
			return 1
		}
		sum := 0
		for _, n := range next {
			sum += count(d.with(n))
		}
		known[d] = sum
		return sum
	}
	return count(done{})
}

// lastOrder does the greatest repair that is ready each time: whatever is done, some order goes on from there.
func (h history) lastOrder() []int {
	var order []int
	var d done
	for next := h.ready(d); len(next) > 0; next = h.ready(d) {
		last := next[len(next)-1]
		order = append(order, last)
		d = d.with(last)
	}
	return order
}
