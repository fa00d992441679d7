package span_test

import (
	"slices"
	"testing"

	"tinker/api"
	"tinker/check"
	"tinker/sample"
	"tinker/span"
)

// sameBox reports a box other than the wanted one.
func sameBox(t *testing.T, what string, got, want []api.Range) {
	t.Helper()
	if !slices.Equal(got, want) {
		t.Errorf("%s: %v instead of %v", what, got, want)
	}
}

func TestHas(t *testing.T) {
	b := box(0, 4, -3, 0, 5, 5, -999, 999)
	for _, x := range []struct {
		in   []int
		want bool
	}{
		{[]int{0, 0, 5, 0}, true}, {[]int{4, -3, 5, 999}, true}, {[]int{2, -1, 5, -999}, true},
		{[]int{-1, 0, 5, 0}, false}, {[]int{5, 0, 5, 0}, false}, {[]int{0, 1, 5, 0}, false}, {[]int{0, -4, 5, 0}, false}, {[]int{0, 0, 4, 0}, false}, {[]int{0, 0, 6, 0}, false},
	} {
		if has, e := span.Has(b, x.in); e != api.OK || has != x.want {
			t.Error("P6.2: Has:", x.in, has, e)
		}
	}
}

// TestPairs: Within, Hull and Meet of two boxes, in either order.
func TestPairs(t *testing.T) {
	a := box(0, 4, -3, 0, 5, 5, 0, 9)
	for _, x := range []struct {
		what       string
		b          []api.Range
		in, back   bool
		hull, meet []api.Range
	}{
		{"itself", box(0, 4, -3, 0, 5, 5, 0, 9), true, true, a, a},
		{"a greater one", box(-1, 4, -3, 1, 4, 6, 0, 9), true, false, box(-1, 4, -3, 1, 4, 6, 0, 9), a},
		{"greater at a Low alone", box(0, 4, -3, 0, 5, 5, -1, 9), true, false, box(0, 4, -3, 0, 5, 5, -1, 9), a},
		{"greater at a High alone", box(0, 4, -3, 0, 5, 5, 0, 10), true, false, box(0, 4, -3, 0, 5, 5, 0, 10), a},
		{"a smaller one", box(1, 1, -3, 0, 5, 5, 0, 9), false, true, a, box(1, 1, -3, 0, 5, 5, 0, 9)},
		{"neither", box(-2, 2, -3, 0, 5, 5, 4, 12), false, false, box(-2, 4, -3, 0, 5, 5, 0, 12), box(0, 2, -3, 0, 5, 5, 4, 9)},
		{"one smaller, one greater", box(1, 3, -4, 1, 5, 5, 0, 9), false, false, box(0, 4, -4, 1, 5, 5, 0, 9), box(1, 3, -3, 0, 5, 5, 0, 9)},
		{"one state in common", box(4, 6, 0, 1, 5, 5, 9, 9), false, false, box(0, 6, -3, 1, 5, 5, 0, 9), box(4, 4, 0, 0, 5, 5, 9, 9)},
		{"just beside it", box(5, 6, -3, 0, 5, 5, 0, 9), false, false, box(0, 6, -3, 0, 5, 5, 0, 9), nil},
		{"beside it in the last register", box(0, 4, -3, 0, 5, 5, -7, -1), false, false, box(0, 4, -3, 0, 5, 5, -7, 9), nil},
		{"far away", box(-999, -999, 999, 999, -999, -999, 999, 999), false, false, box(-999, 4, -3, 999, -999, 5, 0, 999), nil},
	} {
		in, e := span.Within(a, x.b)
		back, f := span.Within(x.b, a)
		if e != api.OK || f != api.OK || in != x.in || back != x.back {
			t.Errorf("P6.2: Within: %s: %v %v %d %d", x.what, in, back, e, f)
		}
		for _, two := range [][2][]api.Range{{a, x.b}, {x.b, a}} {
			hull, e := span.Hull(two[0], two[1])
			meet, some, f := span.Meet(two[0], two[1])
			if e != api.OK || f != api.OK || some != (x.meet != nil) {
				t.Errorf("P6.2: %s: %d %d %v", x.what, e, f, some)
			}
			sameBox(t, "P6.2: Hull: "+x.what, hull, x.hull)
			sameBox(t, "P6.2: Meet: "+x.what, meet, x.meet)
		}
	}
}

func TestPointAndOf(t *testing.T) {
	b, e := span.Point([]int{1, -999, 999, 0})
	if e != api.OK {
		t.Error("P6.2: Point:", e)
	}
	sameBox(t, "P6.2: Point", b, box(1, 1, -999, -999, 999, 999, 0, 0))
	b, e = span.Of(api.Contract{Low: []int{-2, 0, 5, -999}, High: []int{-1, 0, 9, -999}, Out: 1, Min: 3, Max: 4})
	if e != api.OK {
		t.Error("P6.2: Of:", e)
	}
	sameBox(t, "P6.2: Of", b, box(-2, -1, 0, 0, 5, 9, -999, -999))
}

func TestSize(t *testing.T) {
	for want, b := range map[int][]api.Range{
		0: box(0, 0, -5, -5, 999, 999, -999, -999), 1: box(0, 0, 0, 0, 0, 0, -1, 0), 10: box(0, 1, 0, 2, -3, 0, -4, 0), 7992: box(-999, 999, -999, 999, -999, 999, -999, 999),
	} {
		if size, e := span.Size(b); e != api.OK || size != want {
			t.Error("P6.2: Size:", b, size, e)
		}
	}
}

// TestHalves: the middle is rounded down, for numbers below 0 too.
func TestHalves(t *testing.T) {
	for _, x := range []struct{ low, middle, high int }{
		{0, 2, 4}, {0, 0, 1}, {0, 1, 3}, {-1, -1, 0}, {-3, -2, 0}, {-3, -1, 1}, {-2, -1, 1}, {-999, -999, -998}, {998, 998, 999}, {-999, 0, 999}, {-999, -1, 998}, {-5, -4, -2}, {-4, -3, -2},
	} {
		for r := range api.Registers {
			b, first, second := box(0, 1, -2, -1, 3, 3, -9, 9), box(0, 1, -2, -1, 3, 3, -9, 9), box(0, 1, -2, -1, 3, 3, -9, 9)
			b[r] = api.Range{Low: x.low, High: x.high}
			first[r], second[r] = api.Range{Low: x.low, High: x.middle}, api.Range{Low: x.middle + 1, High: x.high}
			one, other, e := span.Halves(b, r)
			if e != api.OK {
				t.Error("P6.2: Halves:", b, r, e)
			}
			sameBox(t, "P6.2: the first one of Halves", one, first)
			sameBox(t, "P6.2: the second one of Halves", other, second)
		}
	}
}

// TestBoxesOfMany holds P6.2 against the states that boxes have.
func TestBoxesOfMany(t *testing.T) {
	m := sample.New()
	meets, parts, halved := 0, 0, 0
	for range 5000 {
		a, b := m.Box(), m.Box()
		switch m.Below(3) {
		case 0:
			b = m.Part(a)
		case 1:
			a[m.Below(api.Registers)] = b[m.Below(api.Registers)]
		}
		if holdPair(t, a, b) {
			meets++
		}
		if holdWithin(t, b, a) {
			parts++
		}
		if holdHalves(t, a, b, m.Below(api.Registers)) {
			halved++
		}
	}
	if meets < 1000 || meets > 4000 || parts < 1000 || parts > 4000 || halved < 1000 || halved > 4000 {
		t.Error("too few boxes of a kind:", meets, parts, halved)
	}
}

// holdPair holds Hull and Meet against the bounds of two boxes, and tells whether there are states in both.
func holdPair(t *testing.T, a, b []api.Range) bool {
	t.Helper()
	hull, _ := span.Hull(a, b)
	sameBox(t, "P6.2: Hull", hull, modelHull([][]api.Range{a, b}))
	meet, some, e := span.Meet(a, b)
	if e != api.OK || some != (len(meet) > 0) {
		t.Fatal("P6.2: Meet:", a, b, meet, some, e)
	}
	any := false
	for _, in := range mixed(a, b) {
		both := modelHas(a, in) && modelHas(b, in)
		any = any || both
		if some && modelHas(meet, in) != both {
			t.Fatal("P6.2: Meet:", a, b, meet, in)
		}
	}
	if some != any {
		t.Fatal("P6.2: Meet:", a, b, meet, some)
	}
	return some
}

// mixed returns all states whose numbers are bounds of one of two boxes. If there is a state in both boxes, one of these is.
func mixed(a, b []api.Range) [][]int {
	var list [][]int
	for n := range 256 {
		in := sample.Zeros()
		for r := range in {
			in[r] = [...]int{a[r].Low, a[r].High, b[r].Low, b[r].High}[n>>(2*r)&3]
		}
		list = append(list, in)
	}
	return list
}

// holdWithin holds Within and Has against the corners of a box.
func holdWithin(t *testing.T, a, b []api.Range) bool {
	t.Helper()
	all := true
	for _, in := range corners(a) {
		has, e := span.Has(b, in)
		if e != api.OK || has != modelHas(b, in) {
			t.Fatal("P6.2: Has:", b, in, has, e)
		}
		all = all && has
	}
	if is, e := span.Within(a, b); e != api.OK || is != all {
		t.Fatal("P6.2: Within:", a, b, is, e)
	}
	return all
}

// holdHalves holds the consequence of P6.2: each state of a box is in just one of its halves. It tells whether there are halves.
func holdHalves(t *testing.T, b, other []api.Range, register int) bool {
	t.Helper()
	first, second, e := span.Halves(b, register)
	if b[register].Low == b[register].High {
		expect(t, "Halves", e, api.ErrRule, len(first) == 0 && len(second) == 0)
		return false
	}
	if e != api.OK || span.Validate(first) != api.OK || span.Validate(second) != api.OK {
		t.Fatal("P6.2: Halves:", b, register, first, second, e)
	}
	more := (first[register].High - first[register].Low) - (second[register].High - second[register].Low)
	if more != 0 && more != 1 {
		t.Fatal("P6.2: the middle of Halves:", b, register, first, second)
	}
	for _, in := range append(mixed(b, other), mixed(first, second)...) {
		one, two := modelHas(first, in), modelHas(second, in)
		if one && two || (one || two) != modelHas(b, in) {
			t.Fatal("P6.2: a state in just one of the Halves:", b, register, in)
		}
	}
	return true
}

// TestContractsOfMany holds Of and Point against contracts and states.
func TestContractsOfMany(t *testing.T) {
	m := sample.New()
	for range 1000 {
		c, in := m.Contract(), m.State()
		b, e := span.Of(c)
		if e != api.OK {
			t.Fatal("P6.2: Of:", c, e)
		}
		sameBox(t, "P6.2: Of", b, modelOf(c))
		if states, _ := check.Box(c); (states == 1) != slices.Equal(c.Low, c.High) {
			t.Fatal("P6.2: Of:", c, states)
		}
		point, e := span.Point(in)
		if e != api.OK {
			t.Fatal("P6.2: Point:", in, e)
		}
		for r, x := range point {
			if x.Low != in[r] || x.High != in[r] {
				t.Fatal("P6.2: Point:", in, point)
			}
		}
	}
}
