package tests

import (
	"slices"
	"testing"

	"loop.example/g00897/impl"
)

// The tests of this file would fail if promise 21, or promise 29 for a function of chapter 21, were
// broken.

// checkLowered checks that a plan differs from the one before only in one light, which is lower on
// its route with as many slots, and in a hitless step has none of its old slots.
func checkLowered(t *testing.T, before impl.Plan, after impl.Plan, id int, hitless bool) {
	t.Helper()
	checkSlots(t, after)
	if len(after.Lights) != len(before.Lights) {
		t.Fatalf("%v has lost or got lights: %v", before, after)
	}
	for i, x := range before.Lights {
		y := after.Lights[i]
		if x.Id != id && !equalLights(x, y) {
			t.Errorf("the light %v becomes %v in the step for the light %d", x, y, id)
		}
		if x.Id != id {
			continue
		}
		isLower := y.Id == id && y.Block.First < x.Block.First && y.Block.Count == x.Block.Count
		if !isLower || y.Route.Start != x.Route.Start || !slices.Equal(y.Route.Fibers, x.Route.Fibers) {
			t.Errorf("the light %v is not lowered, but becomes %v", x, y)
		}
		if hitless && have(places(x.Route, x.Block), places(y.Route, y.Block)) {
			t.Errorf("the light %v is moved into its own slots: %v", x, y)
		}
	}
}

// sumOfFirsts adds the Firsts of all lights, which every step makes smaller.
func sumOfFirsts(p impl.Plan) int {
	sum := 0
	for _, x := range p.Lights {
		sum += x.Block.First
	}
	return sum
}

// TestPromise21DefragmentationOnlyLowersLightsAndEnds performs steps until no light can be moved.
func TestPromise21DefragmentationOnlyLowersLightsAndEnds(t *testing.T) {
	steps := 0
	for _, p := range append(allPlans(), crowded()...) {
		for _, hitless := range []bool{false, true} {
			at, limit := p, sumOfFirsts(p)
			for count := 0; ; count++ {
				q, id, ok := impl.DefragStep(at, hitless)
				if !ok || count > limit {
					t.Fatalf("step %d of %v leads to %v, %v", count, p, q, ok)
				}
				compact, _ := impl.IsCompact(at, hitless)
				if compact != (id == 0) {
					t.Errorf("%v is compact: %v, but the light %d is moved", at, compact, id)
				}
				if id == 0 {
					checkCompact(t, at, hitless)
					break
				}
				checkLowered(t, at, q, id, hitless)
				at = q
				steps++
			}
			end, ids, ok := impl.Defragment(p, hitless, 60)
			if !ok || len(ids) < 60 && !samePlan(end, at) || sumOfFirsts(end) > sumOfFirsts(p)-len(ids) {
				t.Errorf("%v ends as %v, not as %v", p, end, at)
			}
			checkSlots(t, end)
		}
	}
	if steps < 500 {
		t.Errorf("only %d lights are moved", steps)
	}
}

// checkCompact checks that no light has a lower place.
func checkCompact(t *testing.T, p impl.Plan, hitless bool) {
	t.Helper()
	for _, x := range p.Lights {
		if first := expectedLowest(p, x.Id, hitless); first < x.Block.First {
			t.Errorf("the light %v of %v could be moved to %d", x, p, first)
		}
	}
}

// TestPromise21NoPlanIsLowerThanTheCompactOne compares heights: that of the compact plan is the
// smallest one, and defragmentation never raises it.
func TestPromise21NoPlanIsLowerThanTheCompactOne(t *testing.T) {
	lower := 0
	for _, p := range append(allPlans(), crowded()...) {
		p = plan(p.Network, p.Lights[:min(impl.MaxRequests, len(p.Lights))]...)
		q, ok := impl.CompactPlan(p)
		least, fine := impl.LowestHeight(p)
		height, _ := impl.PlanHeight(q)
		if !ok || !fine || height != least || expectedHeight(q) != least {
			t.Fatalf("the compact plan of %v has the height %d, not %d: %v", p, height, least, q)
		}
		checkSlots(t, q)
		for _, hitless := range []bool{false, true} {
			end, _, _ := impl.Defragment(p, hitless, 60)
			before, after := expectedHeight(p), expectedHeight(end)
			if after > before || after < least {
				t.Errorf("%v is defragmented from the height %d to %d, and the least one is %d", p, before, after, least)
			}
			if after > least {
				lower++
			}
		}
	}
	if lower < 5 {
		t.Errorf("only %d compact plans are lower than the defragmented ones", lower)
	}
}

func defragmentationCandidates() candidates {
	c := candidates{}
	for i, p := range append(samplePlans(), brokenPlans()...) {
		if i < len(samplePlans()) || i%2 == 0 {
			c.add(p)
		}
	}
	c.add(gapped(), crowded()[3], crowded()[17])
	c.add(false, true)
	c.add(minInt, -1, 0, 1, 5, 9, 60, 61, 999, maxInt)
	return c
}

func TestPromise29DefragmentationFunctions(t *testing.T) {
	c := defragmentationCandidates()
	for _, f := range []any{impl.PlanHeight, impl.LowestFirst, impl.DefragStep, impl.Defragment, impl.IsCompact, impl.LowestHeight, impl.CompactPlan, impl.FragmentationOf} {
		sweep(t, f, c, 1500, startsWithBrokenPlan)
	}
}
