package patch_test

import (
	"math"
	"slices"
	"testing"

	"tinker/api"
	"tinker/patch"
	"tinker/sample"
)

func TestThenAndMerge(t *testing.T) {
	move := api.Line{Op: api.Copy, A: 1}
	for _, c := range []struct {
		x, y, then, merge []api.Edit
		ofThen, ofMerge   api.Errno
	}{
		{nil, nil, nil, nil, api.OK, api.OK},
		{nil, sets(2, 4), sets(2, 4), sets(2, 4), api.OK, api.OK},
		{sets(2, 4), nil, sets(2, 4), sets(2, 4), api.OK, api.OK},
		{one(0, set(4)), one(0, set(5)), one(0, set(5)), nil, api.OK, api.ErrTwice},
		{one(3, set(3)), one(3, set(3)), sets(3), sets(3), api.OK, api.OK},
		{sets(3), sets(1), sets(1, 3), sets(1, 3), api.OK, api.OK},
		{sets(1, 3), sets(0, 7), sets(0, 1, 3, 7), sets(0, 1, 3, 7), api.OK, api.OK},
		{sets(0, 1, 2, 3), sets(0, 1, 2, 3), sets(0, 1, 2, 3), sets(0, 1, 2, 3), api.OK, api.OK},
		{sets(0, 1, 2, 3), one(2, move), append(append(sets(0, 1), one(2, move)...), sets(3)...), nil, api.OK, api.ErrTwice},
		{append(one(0, move), sets(5)...), append(one(0, api.Line{}), sets(5)...), append(one(0, api.Line{}), sets(5)...), nil, api.OK, api.ErrTwice},
		{sets(0, 1, 2, 3), sets(4), nil, nil, api.ErrLarge, api.ErrLarge},
		{sets(0, 1, 2, 3), sets(4, 5, 6, 7), nil, nil, api.ErrLarge, api.ErrLarge},
		{sets(0, 1, 2, 3), sets(3, 4), nil, nil, api.ErrLarge, api.ErrLarge},
		{sets(0, 1, 2, 3), append(one(3, move), sets(4)...), nil, nil, api.ErrLarge, api.ErrTwice},
		{sets(4, 5, 6, 7), append(one(0, move), one(7, move)...), nil, nil, api.ErrLarge, api.ErrTwice},
	} {
		if x, e := patch.Then(c.x, c.y); e != c.ofThen || !slices.Equal(x, c.then) {
			t.Error("P4.3: Then:", c.x, c.y, x, e)
		}
		if x, e := patch.Merge(c.x, c.y); e != c.ofMerge || !slices.Equal(x, c.merge) {
			t.Error("P4.3: Merge:", c.x, c.y, x, e)
		}
	}
}

// meeting returns a patch; at places that it has in common with x it often has the same lines.
func meeting(m *sample.Maker, p []api.Line, x []api.Edit) []api.Edit {
	if m.Below(2) == 0 {
		p = modelDo(p, x)
	}
	return m.Patch(p)
}

// TestThenAndMergeOfMany holds P4.3 and its consequences against programs that are patched twice.
func TestThenAndMergeOfMany(t *testing.T) {
	m := sample.New()
	codes := map[api.Errno]int{}
	for range 20000 {
		p := m.Program()
		x := m.Patch(p)
		y := meeting(m, p, x)
		places, twice := map[int]api.Line{}, false
		for _, edit := range x {
			places[edit.At] = edit.Line
		}
		for _, edit := range y {
			l, has := places[edit.At]
			twice = twice || has && l != edit.Line
			places[edit.At] = edit.Line
		}
		then, e := patch.Then(x, y)
		if (len(places) > 4) != (e == api.ErrLarge) || e == api.OK && (len(then) != len(places) || !slices.Equal(modelDo(p, then), modelDo(modelDo(p, x), y))) {
			t.Fatal("P4.3: Then:", p, x, y, then, e)
		}
		merge, f := patch.Merge(x, y)
		codes[f]++
		if twice != (f == api.ErrTwice) || !twice && (f != e || !slices.Equal(merge, then)) {
			t.Fatal("P4.3: Merge:", x, y, merge, f)
		}
		other, g := patch.Merge(y, x)
		if f != g || !slices.Equal(merge, other) {
			t.Fatal("P4.3: Merge in the other order:", x, y, merge, other)
		}
		if behind, e := patch.Then(y, x); f == api.OK && (e != api.OK || !slices.Equal(merge, behind)) {
			t.Fatal("P4.3: where Merge has no error, it is Then in either order:", x, y, merge, behind)
		}
		if e := patch.Validate(then); e != api.OK {
			t.Fatal("P4.3:", then, e)
		}
	}
	if min(codes[api.OK], codes[api.ErrTwice], codes[api.ErrLarge]) < 500 {
		t.Error("too few pairs of a kind:", codes)
	}
}

func TestKeep(t *testing.T) {
	for _, c := range []struct {
		places []int
		want   []api.Edit
	}{
		{nil, nil}, {[]int{0, 2, 5, 6}, nil}, {[]int{1}, sets(1)}, {[]int{7}, sets(7)}, {[]int{0, 1, 2, 4}, sets(1, 4)}, {[]int{1, 3, 4, 7}, sets(1, 3, 4, 7)}, {[]int{0, 1, 2, 3, 4, 5, 6, 7}, sets(1, 3, 4, 7)},
	} {
		if x, e := patch.Keep(sets(1, 3, 4, 7), c.places); e != api.OK || !slices.Equal(x, c.want) {
			t.Error("P4.3: Keep:", c.places, x, e)
		}
		if x, e := patch.Keep(nil, c.places); e != api.OK || len(x) != 0 {
			t.Error("P4.3: Keep of the empty patch:", c.places, x, e)
		}
	}
	for _, places := range [][]int{{8}, {-1}, {1, 1}, {3, 1}, {-1, 1}, {0, 8}, {0, 2, 2}, {1, 3, 2}, make([]int, 5000), {math.MinInt}, {math.MaxInt}, {0, 1, 2, 3, 4, 5, 6, 7, 8}} {
		for _, x := range [][]api.Edit{nil, sets(1, 3)} {
			if y, e := patch.Keep(x, places); e != api.ErrArg || len(y) != 0 {
				t.Error("P4.3: Keep:", x, places, y, e)
			}
		}
	}
}

func TestThree(t *testing.T) {
	four, move := set(4), api.Line{Op: api.Copy, A: 1}
	for _, c := range []struct {
		a, b, merged []api.Line
		conflicts    []int
	}{
		{six(), six(), six(), nil},
		{[]api.Line{four, double()}, six(), []api.Line{four, double()}, nil},
		{[]api.Line{four, double()}, []api.Line{set(3), move}, []api.Line{four, move}, nil},
		{[]api.Line{four, move}, []api.Line{four, move}, []api.Line{four, move}, nil},
		{[]api.Line{four, move}, six(), []api.Line{four, move}, nil},
		{[]api.Line{four, double()}, []api.Line{set(5), double()}, six(), []int{0}},
		{[]api.Line{four, move}, []api.Line{set(5), move}, []api.Line{set(3), move}, []int{0}},
		{[]api.Line{four, move}, []api.Line{four, {}}, []api.Line{four, double()}, []int{1}},
		{[]api.Line{four, move}, []api.Line{set(5), {}}, six(), []int{0, 1}},
	} {
		for range 2 {
			if q, set, e := patch.Three(six(), c.a, c.b); e != api.OK || !slices.Equal(q, c.merged) || !slices.Equal(set, c.conflicts) {
				t.Error("P4.4:", c.a, c.b, q, set, e)
			}
			c.a, c.b = c.b, c.a
		}
	}
	if q, set, e := patch.Three(nil, nil, nil); e != api.OK || len(q) != 0 || len(set) != 0 {
		t.Error("P4.4: empty programs:", q, set, e)
	}
	none := make([]api.Line, 8)
	for _, c := range [][3][]api.Line{{six(), six()[:1], six()}, {six(), six(), six()[:1]}, {six(), nil, nil}, {nil, six(), six()}, {nil, nil, six()}, {none, none[:7], none[:7]}, {none[:7], none, none}} {
		if q, set, e := patch.Three(c[0], c[1], c[2]); e != api.ErrFit || len(q) != 0 || len(set) != 0 {
			t.Error("P4.4:", c, q, set, e)
		}
	}
}

// TestThreeOfMany: programs of many kinds are merged line by line, also with each other exchanged, and as patches where these can be merged.
func TestThreeOfMany(t *testing.T) {
	m := sample.New()
	conflicts, merges := 0, 0
	for range 10000 {
		base := m.Program()
		a := m.Change(base)
		b := m.Change(base)
		for i := range b {
			if m.Below(3) == 0 {
				b[i] = a[i]
			}
		}
		q, set, e := patch.Three(base, a, b)
		if e != api.OK || len(q) != len(base) {
			t.Fatal("P4.4:", base, a, b, q, e)
		}
		for i, l := range q {
			mine, yours := a[i] != base[i], b[i] != base[i]
			both := mine && yours && a[i] != b[i]
			want := base[i]
			if mine && !both {
				want = a[i]
			} else if yours && !both {
				want = b[i]
			}
			if l != want || slices.Contains(set, i) != both {
				t.Fatal("P4.4:", base, a, b, q, set)
			}
		}
		conflicts += len(set)
		other, again, e := patch.Three(base, b, a)
		if e != api.OK || !slices.Equal(other, q) || !slices.Equal(again, set) {
			t.Fatal("P4.4: exchanged:", base, a, b, q, set, other, again, e)
		}
		if other, again, e := patch.Three(base, a, base); e != api.OK || !slices.Equal(other, a) || len(again) != 0 {
			t.Fatal("P4.4: with b equal to the base:", base, a, other, again, e)
		}
		x, e := patch.Diff(base, a)
		y, f := patch.Diff(base, b)
		z, g := patch.Merge(x, y)
		if e != api.OK || f != api.OK || g != api.OK {
			continue
		}
		merges++
		if len(set) != 0 || !slices.Equal(modelDo(base, z), q) {
			t.Fatal("P4.3, P4.4:", base, a, b, z, q, set)
		}
	}
	if conflicts < 1000 || merges < 1000 {
		t.Error("too few programs of a kind:", conflicts, merges)
	}
}
