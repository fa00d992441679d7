package story_test

import (
	"slices"
	"testing"

	"tinker/api"
	"tinker/sample"
	"tinker/story"
)

// TestOrders: the orders that keep the needs, all of them in ascending order, and some that do not.
func TestOrders(t *testing.T) {
	for _, x := range []struct {
		what    string
		h       [][]api.Edit
		keep    [][]int
		notKeep [][]int
	}{
		{"no repairs", nil, [][]int{nil}, nil},
		{"one repair", history([]int{0}), [][]int{{0}}, nil},
		{"the document's example", three(), [][]int{{0, 1, 2}, {1, 0, 2}}, [][]int{{2, 0, 1}, {0, 2, 1}, {2, 1, 0}, {1, 2, 0}}},
		{"empty repairs", make([][]api.Edit, 2), [][]int{{0, 1}, {1, 0}}, nil},
		{"the same line", history([]int{1}, []int{1}, []int{1}), [][]int{{0, 1, 2}}, [][]int{{0, 2, 1}, {1, 0, 2}, {2, 1, 0}}},
		{"the same repair twice", [][]api.Edit{sets(1, 0), sets(1, 0)}, [][]int{{0, 1}}, [][]int{{1, 0}}},
		{"one on its own", history([]int{0}, []int{0}, []int{1}), [][]int{{0, 1, 2}, {0, 2, 1}, {2, 0, 1}}, [][]int{{1, 0, 2}, {2, 1, 0}, {1, 2, 0}}},
		{"the last one needs the first one", history([]int{0}, []int{1}, []int{0}), [][]int{{0, 1, 2}, {0, 2, 1}, {1, 0, 2}}, [][]int{{1, 2, 0}, {2, 0, 1}}},
		{"a chain", history([]int{0}, []int{0, 1}, []int{1}), [][]int{{0, 1, 2}}, [][]int{{0, 2, 1}, {2, 0, 1}, {2, 1, 0}}},
		{"two pairs", history([]int{0}, []int{1}, []int{0}, []int{1}), [][]int{{0, 1, 2, 3}, {0, 1, 3, 2}, {0, 2, 1, 3}, {1, 0, 2, 3}, {1, 0, 3, 2}, {1, 3, 0, 2}}, [][]int{{2, 0, 1, 3}, {3, 2, 1, 0}}},
	} {
		for _, order := range x.keep {
			q, f := story.PlayOrder(nine(), x.h, order)
			if e := story.CheckOrder(nine(), x.h, order); e != api.OK || f != api.OK || !slices.Equal(q, modelEnd(nine(), x.h)) {
				t.Errorf("P7.3: %s: %v: %d %v %d", x.what, order, e, q, f)
			}
		}
		for _, order := range x.notKeep {
			q, f := story.PlayOrder(nine(), x.h, order)
			if e := story.CheckOrder(nine(), x.h, order); e != api.ErrProof || f != api.ErrProof || len(q) != 0 {
				t.Errorf("P7.3: %s: %v: %d %v %d", x.what, order, e, q, f)
			}
		}
		if n, e := story.CountOrders(nine(), x.h); e != api.OK || n != len(x.keep) {
			t.Errorf("P7.3: CountOrders: %s: %d %d", x.what, n, e)
		}
		if last, e := story.LastOrder(nine(), x.h); e != api.OK || !slices.Equal(last, x.keep[len(x.keep)-1]) {
			t.Errorf("P7.3: LastOrder: %s: %v %d", x.what, last, e)
		}
	}
}

// TestLongHistories: as many repairs as there may be.
func TestLongHistories(t *testing.T) {
	one, two, all := []int{0}, []int{1}, []int{0, 1}
	for _, x := range []struct {
		what string
		h    [][]api.Edit
		n    int
		last []int
	}{
		{"empty repairs", make([][]api.Edit, 8), 40320, []int{7, 6, 5, 4, 3, 2, 1, 0}},
		{"lines of their own", history([]int{0}, []int{1}, []int{2}, []int{3}, []int{4}, []int{5}, []int{6}, []int{7}), 40320, []int{7, 6, 5, 4, 3, 2, 1, 0}},
		{"the same line", history(one, one, one, one, one, one, one, one), 1, []int{0, 1, 2, 3, 4, 5, 6, 7}},
		{"two lines in turn", history(one, two, one, two, one, two, one, two), 70, []int{1, 3, 5, 7, 0, 2, 4, 6}},
		{"both lines in the middle", history(one, two, one, two, all, two, one, two), 6 * 3, []int{1, 3, 0, 2, 4, 6, 5, 7}},
		{"pairs", history(one, one, two, two, []int{2}, []int{2}, []int{3}, []int{3}), 2520, []int{6, 7, 4, 5, 2, 3, 0, 1}},
	} {
		if n, e := story.CountOrders(nones(8), x.h); e != api.OK || n != x.n {
			t.Errorf("P7.3: CountOrders: %s: %d %d", x.what, n, e)
		}
		if last, e := story.LastOrder(nones(8), x.h); e != api.OK || !slices.Equal(last, x.last) {
			t.Errorf("P7.3: LastOrder: %s: %v %d", x.what, last, e)
		}
	}
}

// TestOrdersOfMany holds P7.3 against all orders of histories.
func TestOrdersOfMany(t *testing.T) {
	m := sample.New()
	var orders [api.MaxRepairs + 1][][]int
	for n := range orders {
		orders[n] = sample.Orders(n)
	}
	kinds := map[string]int{}
	for range 1000 {
		p := m.Program()
		h := m.History(p)
		if len(h) == api.MaxRepairs && m.Below(4) > 0 {
			h = h[:6]
		}
		holdOrders(t, p, h, orders[len(h)], kinds)
		// Of the many orders of a long history, some are tried one by one.
		all := orders[len(h)]
		for i := range min(len(all), 40) {
			if len(all) > 40 {
				i = m.Below(len(all))
			}
			holdOrder(t, p, h, all[i], kinds)
		}
	}
	for _, kind := range []string{"one order", "many orders", "all orders", "kept", "not kept"} {
		if kinds[kind] < 100 {
			t.Error("too few of a kind:", kind, kinds)
		}
	}
}

// holdOrders holds CountOrders and LastOrder against all orders, which are given in ascending order.
func holdOrders(t *testing.T, p []api.Line, h [][]api.Edit, orders [][]int, kinds map[string]int) {
	t.Helper()
	needs, n := modelNeeds(h), 0
	var last []int
	for _, order := range orders {
		if modelKeeps(needs, order) {
			n++
			last = order
		}
	}
	if got, e := story.CountOrders(p, h); e != api.OK || got != n {
		t.Fatal("P7.3: CountOrders:", p, h, got, n, e)
	}
	got, e := story.LastOrder(p, h)
	if e != api.OK || !slices.Equal(got, last) {
		t.Fatal("P7.3: LastOrder:", p, h, got, last, e)
	}
	holdOrder(t, p, h, got, kinds)
	count(kinds, "one order", n == 1)
	count(kinds, "many orders", n > 1 && n < len(orders))
	count(kinds, "all orders", n == len(orders) && n > 1)
}

// holdOrder holds CheckOrder and PlayOrder against the model; S7: an order that keeps the needs leads to the program of Play.
func holdOrder(t *testing.T, p []api.Line, h [][]api.Edit, order []int, kinds map[string]int) {
	t.Helper()
	e := story.CheckOrder(p, h, order)
	q, f := story.PlayOrder(p, h, order)
	if !modelKeeps(modelNeeds(h), order) {
		if e != api.ErrProof || f != api.ErrProof || len(q) != 0 {
			t.Fatal("P7.3: CheckOrder, PlayOrder:", p, h, order, e, q, f)
		}
		kinds["not kept"]++
		return
	}
	end, _ := story.Play(p, h)
	if e != api.OK || f != api.OK || !slices.Equal(q, end) || !slices.Equal(q, modelEnd(p, h)) {
		t.Fatal("S7: CheckOrder, PlayOrder:", p, h, order, e, q, f)
	}
	kinds["kept"]++
}
