package suite_test

import (
	"slices"
	"testing"

	"tinker/api"
	"tinker/sample"
	"tinker/suite"
)

func TestChangesExamples(t *testing.T) {
	for row, want := range [][][]int{{{0, 1, 1}, {0, 0, 1}}, {{1, 1, 0}, {0, 0, 1}}, {{1, 1, 0}, {0, 1, 1}}} {
		if rest, e := suite.Without(three(), row); e != api.OK || !same(rest, want) {
			t.Error("P8.5: Without:", row, rest, e)
		}
	}
	for goal, want := range [][][]int{{{1, 0}, {1, 1}, {0, 1}}, {{1, 0}, {0, 1}, {0, 1}}, {{1, 1}, {0, 1}, {0, 0}}} {
		if rest, e := suite.Drop(three(), goal); e != api.OK || !same(rest, want) {
			t.Error("P8.5: Drop:", goal, rest, e)
		}
	}
	for _, x := range []struct {
		order []int
		want  [][]int
	}{
		{[]int{0, 1, 2}, three()},
		{[]int{1, 2, 0}, [][]int{{0, 1, 1}, {0, 0, 1}, {1, 1, 0}}},
		{[]int{2, 0, 1}, [][]int{{0, 0, 1}, {1, 1, 0}, {0, 1, 1}}},
		{[]int{2, 1, 0}, [][]int{{0, 0, 1}, {0, 1, 1}, {1, 1, 0}}},
	} {
		if twisted, e := suite.Twist(three(), x.order); e != api.OK || !same(twisted, x.want) {
			t.Error("P8.5: Twist:", x.order, twisted, e)
		}
	}
}

// TestNothingLeft: a suite may lose all rows, or all goals.
func TestNothingLeft(t *testing.T) {
	if rest, e := suite.Without([][]int{{1, 0}}, 0); e != api.OK || len(rest) != 0 {
		t.Error("P8.5: Without:", rest, e)
	}
	if rest, e := suite.Without([][]int{nil, {}}, 1); e != api.OK || !same(rest, [][]int{nil}) {
		t.Error("P8.5: Without:", rest, e)
	}
	if rest, e := suite.Drop([][]int{{1}, {0}}, 0); e != api.OK || !same(rest, [][]int{nil, nil}) {
		t.Error("P8.5: Drop:", rest, e)
	}
	if twisted, e := suite.Twist(nil, nil); e != api.OK || len(twisted) != 0 {
		t.Error("P8.5: Twist:", twisted, e)
	}
	if twisted, e := suite.Twist([][]int{nil, {}}, []int{1, 0}); e != api.OK || !same(twisted, [][]int{nil, nil}) {
		t.Error("P8.5: Twist:", twisted, e)
	}
}

// TestChangesOfMany holds P8.5 for each row, each goal and some orders of suites.
func TestChangesOfMany(t *testing.T) {
	m := sample.New()
	for range 300 {
		s := makeSuite(m, m.Below(api.MaxRows+1))
		cover, e := suite.Cover(s)
		if e != api.OK {
			t.Fatal("P8.2: Cover:", s, e)
		}
		for row := range s {
			want := append(slices.Clone(s[:row]), s[row+1:]...)
			if rest, e := suite.Without(s, row); e != api.OK || !same(rest, want) {
				t.Fatal("P8.5: Without:", s, row, rest, e)
			}
		}
		for goal := range modelGoals(s) {
			rest, e := suite.Drop(s, goal)
			if e != api.OK || !same(rest, modelDrop(s, goal)) {
				t.Fatal("P8.5: Drop:", s, goal, rest, e)
			}
			if less, e := suite.Cover(rest); e != api.OK || len(less) > len(cover) || suite.CheckCover(rest, cover) != api.OK {
				t.Fatal("P8.5: the consequence: Drop makes a cover larger:", s, goal, less, cover)
			}
		}
		for range 3 {
			holdTwist(t, s, makeOrder(m, len(s)), len(cover))
		}
	}
}

// modelDrop builds the rows again from the other goals.
func modelDrop(s [][]int, goal int) [][]int {
	rest := make([][]int, len(s))
	for i, row := range s {
		for g, n := range row {
			if g != goal {
				rest[i] = append(rest[i], n)
			}
		}
	}
	return rest
}

// holdTwist holds Twist, and that it changes neither the size of Cover nor the wait of Best.
func holdTwist(t *testing.T, s [][]int, order []int, size int) {
	t.Helper()
	twisted, e := suite.Twist(s, order)
	if e != api.OK || len(twisted) != len(s) {
		t.Fatal("P8.5: Twist:", s, order, twisted, e)
	}
	for i, row := range order {
		if !slices.Equal(twisted[i], s[row]) {
			t.Fatal("P8.5: Twist:", s, order, twisted)
		}
	}
	_, least, e := suite.Best(s)
	_, again, f := suite.Best(twisted)
	cover, g := suite.Cover(twisted)
	if e != api.OK || f != api.OK || g != api.OK || least != again || len(cover) != size {
		t.Fatal("P8.5: the consequence: Twist:", s, order, least, again, cover, size)
	}
}
