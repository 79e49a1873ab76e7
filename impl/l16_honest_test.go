package impl

import (
	"slices"
	"testing"
)

// A world that is right has too few grams for a round to leave any: so this is asked here.
func TestAtMostSixtyAreGivenInARound(t *testing.T) {
	for _, count := range []int{0, 1, MaxGrams, 59, 60, 61, 62, 119, 120, 121, 300} {
		var grams []Gram
		for no := range count {
			grams = append(grams, Gram{Kind: GrAck, P: Piece{No: no}})
		}
		h := &host{world: World{Places: 1, Links: make([]Link, 1), Gave: make([][]string, 1), Took: make([][]string, 1)}}
		h.world.Grams = slices.Clone(grams)
		given := min(count, 60)
		if done := h.round(); done != int64(given) || !slices.Equal(h.world.Grams, grams[given:]) {
			t.Errorf("of %d grams %d were given, and left are %v", count, done, h.world.Grams)
		}
	}
}

// Each round begins with an empty plan, and counts from nought on: what was planned and done in the one before is seen from outside only where it does harm.
func TestEachRoundBeginsAnew(t *testing.T) {
	h := &host{world: World{Places: 2, Links: make([]Link, 4), Gave: make([][]string, 4), Took: make([][]string, 4)}}
	shows := []Deed{{Kind: DoShow, A: 0, B: 1}, {Kind: DoShow, A: 1, B: 0}}
	for _, count := range []int{3, 8, 0, 1, 5, 2} {
		h.world.Homes = nil
		var want []Deed
		for i := range count {
			h.world.Homes = append(h.world.Homes, Home{P: Proc{Pid: 9 - i}})
			want = append(want, Deed{Kind: DoStep, A: 9 - i, B: MaxMore})
		}
		h.makePlan()
		if want = append(want, shows...); !slices.Equal(h.plan, want) {
			t.Errorf("of %d homes the plan is %v", count, h.plan)
		}
		if behind := h.plan[len(h.plan):cap(h.plan)]; slices.ContainsFunc(behind, func(d Deed) bool { return d != Deed{} }) {
			t.Errorf("behind the plan of %d homes stands %v", count, behind)
		}
	}
	h.world.Homes = nil
	for _, grams := range []int{2, 0, 1} {
		h.world.Grams = make([]Gram, 0, grams)
		for range grams {
			h.world.Grams = append(h.world.Grams, Gram{Kind: GrAck})
		}
		if done := h.round(); done != int64(grams) {
			t.Errorf("a round of %d grams tells %d", grams, done)
		}
	}
}
