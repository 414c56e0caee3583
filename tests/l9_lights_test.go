package tests

import (
	"slices"
	"testing"

	"loop.example/g00897/impl"
)

// The tests of this file compare every function of chapter 9 with what the document states:
// ordinary inputs, the edge cases that the chapter names, and invalid inputs.

// randomPlans returns count valid plans with many lights, of which none could get any slot twice.
// The numbers follow a fixed sequence.
func randomPlans(count int) []impl.Plan {
	var list []impl.Plan
	next := numbers(9)
	for _, n := range randomNetworks(count, 6) {
		p, routes := plan(n), expectedRoutes(n)
		for id := 1 + next(80); len(routes) > 0 && id <= impl.MaxId && len(p.Lights) < impl.MaxLights; id += 1 + next(80) {
			first := next(impl.MaxSlots)
			x := light(id, routes[next(len(routes))], first, 1+next(min(8, impl.MaxSlots-first)))
			if len(expectedColliding(p, x)) == 0 {
				p.Lights = append(p.Lights, x)
			}
		}
		list = append(list, p)
	}
	return list
}

// slotsOf returns every fiber and slot that a light occupies.
func slotsOf(x impl.Light) [][2]int {
	var slots [][2]int
	for _, fiber := range x.Route.Fibers {
		for k := range x.Block.Count {
			slots = append(slots, [2]int{fiber, x.Block.First + k})
		}
	}
	return slots
}

// expectedColliding returns the Ids of the other lights that have a slot of x.
func expectedColliding(p impl.Plan, x impl.Light) []int {
	var ids []int
	for _, y := range p.Lights {
		if y.Id != x.Id && slices.ContainsFunc(slotsOf(y), func(s [2]int) bool { return slices.Contains(slotsOf(x), s) }) {
			ids = append(ids, y.Id)
		}
	}
	return ids
}

// expectedMasks returns the mask of every fiber.
func expectedMasks(p impl.Plan) []int {
	masks := make([]int, len(p.Network.Fibers))
	for _, x := range p.Lights {
		for _, s := range slotsOf(x) {
			masks[s[0]] |= 1 << s[1]
		}
	}
	return masks
}

func allPlans() []impl.Plan { return append(samplePlans(), randomPlans(40)...) }

func TestIsValidPlan(t *testing.T) {
	for _, p := range allPlans() {
		check(t, impl.IsValidPlan, in(p), out(true))
	}
	for _, p := range brokenPlans() {
		check(t, impl.IsValidPlan, in(p), out(false))
	}
}

// TestIsValidPlanOfTwoLights tries all pairs of blocks, on the same fiber and on different ones.
func TestIsValidPlanOfTwoLights(t *testing.T) {
	var blocks []impl.Block
	for _, first := range []int{0, 1, 2, 3, 5, 20, 22, 23} {
		for _, count := range []int{1, 2, 3, 4, 24} {
			if first+count <= impl.MaxSlots {
				blocks = append(blocks, impl.Block{First: first, Count: count})
			}
		}
	}
	for _, a := range blocks {
		for _, b := range blocks {
			overlap := a.First < b.First+b.Count && b.First < a.First+a.Count
			x, y := impl.Light{Id: 1, Route: route(0, 0, 2), Block: a}, impl.Light{Id: 2, Route: route(3, 3, 2), Block: b}
			check(t, impl.IsValidPlan, in(plan(square(), x, y)), out(!overlap))
			y.Route = route(3, 1)
			check(t, impl.IsValidPlan, in(plan(square(), x, y)), out(true))
			y.Route = route(1, 0, 1)
			check(t, impl.IsValidPlan, in(plan(square(), x, y)), out(!overlap))
		}
	}
}

func TestLightNumber(t *testing.T) {
	p := samplePlans()[6]
	check(t, impl.LightNumber, in(p, 3), out(0, true))
	check(t, impl.LightNumber, in(p, 30), out(1, true))
	check(t, impl.LightNumber, in(p, 300), out(2, true))
	check(t, impl.LightNumber, in(samplePlans()[5], 999), out(1, true))
	for _, id := range []int{0, 1, 2, 4, 299, 301, -3, 1000, minInt, maxInt} {
		checkFails(t, impl.LightNumber, p, id)
	}
	checkFails(t, impl.LightNumber, samplePlans()[0], 0)
	for _, p := range brokenPlans() {
		checkFails(t, impl.LightNumber, p, 1)
		checkFails(t, impl.LightNumber, p, 0)
	}
}

func TestMasksAndUseOfPlans(t *testing.T) {
	p := samplePlans()[3]
	check(t, impl.FiberMasks, in(p), out([]int{7, 0, 31, 0}, true))
	check(t, impl.RouteMask, in(p, route(3, 1, 0)), out(7, true))
	check(t, impl.RouteMask, in(p, route(3, 1)), out(0, true))
	check(t, impl.PlanUse, in(p), out(8, 5, true))
	check(t, impl.FiberMasks, in(samplePlans()[0]), out([]int{}, true))
	check(t, impl.PlanUse, in(samplePlans()[0]), out(0, 0, true))
	check(t, impl.FiberMasks, in(samplePlans()[1]), out([]int{fullMask}, true))
	check(t, impl.PlanUse, in(samplePlans()[1]), out(24, 24, true))
	for _, p := range allPlans() {
		masks := expectedMasks(p)
		check(t, impl.FiberMasks, in(p), out(masks, true))
		slots, union := 0, map[int]bool{}
		for _, x := range p.Lights {
			for _, s := range slotsOf(x) {
				slots++
				union[s[1]] = true
			}
		}
		check(t, impl.PlanUse, in(p), out(slots, len(union), true))
		for i, r := range expectedRoutes(p.Network) {
			mask := 0
			for _, fiber := range r.Fibers {
				mask |= masks[fiber]
			}
			if i < 50 {
				check(t, impl.RouteMask, in(p, r), out(mask, true))
			}
		}
	}
	for _, r := range badRoutes() {
		checkFails(t, impl.RouteMask, p, r)
	}
	for _, p := range brokenPlans() {
		checkFails(t, impl.FiberMasks, p)
		checkFails(t, impl.RouteMask, p, route(0, 0))
		checkFails(t, impl.PlanUse, p)
	}
}

func TestCollidingLights(t *testing.T) {
	p := samplePlans()[3]
	check(t, impl.CollidingLights, in(p, light(9, route(1, 2), 2, 2)), out([]int{1, 2}, true))
	check(t, impl.CollidingLights, in(p, light(9, route(2, 2), 5, 2)), out([]int{}, true))
	check(t, impl.CollidingLights, in(p, light(9, route(1, 0), 2, 9)), out([]int{1}, true))
	check(t, impl.CollidingLights, in(p, light(9, route(0, 1, 3), 0, 24)), out([]int{}, true))
	// A light does not collide with the one that has its Id.
	check(t, impl.CollidingLights, in(p, light(1, route(1, 2), 2, 2)), out([]int{2}, true))
	check(t, impl.CollidingLights, in(p, light(2, route(1, 2), 2, 2)), out([]int{1}, true))
	check(t, impl.CollidingLights, in(samplePlans()[2], light(999, route(1, 2), 2, 2)), out([]int{}, true))
	next := numbers(77)
	for _, p := range allPlans() {
		routes := expectedRoutes(p.Network)
		for i := 0; i < len(routes); i += 1 + len(routes)/12 {
			first := next(impl.MaxSlots)
			x := light(1+next(impl.MaxId), routes[i], first, 1+next(impl.MaxSlots-first))
			if len(p.Lights) > 0 && i%3 == 0 {
				x.Id = p.Lights[next(len(p.Lights))].Id
			}
			check(t, impl.CollidingLights, in(p, x), out(expectedColliding(p, x), true))
		}
	}
	for _, x := range badLights() {
		checkFails(t, impl.CollidingLights, p, x)
	}
	for _, p := range brokenPlans() {
		checkFails(t, impl.CollidingLights, p, light(9, route(0, 0), 0, 1))
	}
}

// badLights returns lights that are not valid for the square.
func badLights() []impl.Light {
	var list []impl.Light
	for _, id := range []int{0, -1, 1000, minInt, maxInt} {
		list = append(list, light(id, route(0, 1), 5, 1))
	}
	for _, r := range badRoutes() {
		list = append(list, light(9, r, 5, 1))
	}
	for _, b := range badBlocks() {
		list = append(list, impl.Light{Id: 9, Route: route(0, 1), Block: b})
	}
	return list
}

func TestAddLight(t *testing.T) {
	p := plan(square(), light(10, route(0, 0), 4, 2), light(20, route(0, 0), 6, 2))
	a, b := p.Lights[0], p.Lights[1]
	for id, want := range map[int]int{1: 0, 9: 0, 11: 1, 19: 1, 21: 2, 999: 2} {
		x := light(id, route(1, 0, 1), 2, 2)
		check(t, impl.AddLight, in(p, x), out(plan(p.Network, slices.Insert([]impl.Light{a, b}, want, x)...), true))
	}
	check(t, impl.AddLight, in(plan(square()), a), out(plan(square(), a), true))
	// The same block on other fibers, and adjacent blocks on both sides.
	check(t, impl.AddLight, in(p, light(30, route(1, 2, 3), 4, 4)), out(plan(p.Network, a, b, light(30, route(1, 2, 3), 4, 4)), true))
	check(t, impl.AddLight, in(p, light(30, route(0, 0), 8, 16)), out(plan(p.Network, a, b, light(30, route(0, 0), 8, 16)), true))
	check(t, impl.AddLight, in(p, light(30, route(0, 0), 0, 4)), out(plan(p.Network, a, b, light(30, route(0, 0), 0, 4)), true))
	checkFails(t, impl.AddLight, p, light(30, route(0, 0), 0, 5))
	checkFails(t, impl.AddLight, p, light(30, route(0, 0), 7, 2))
	checkFails(t, impl.AddLight, p, light(30, route(2, 2, 0), 5, 1))
	checkFails(t, impl.AddLight, p, light(30, route(0, 0), 0, 24))
	// The Id exists already.
	checkFails(t, impl.AddLight, p, light(10, route(1, 2), 0, 1))
	checkFails(t, impl.AddLight, p, light(20, route(1, 2), 0, 1))
	checkFails(t, impl.AddLight, p, a)
	for _, x := range badLights() {
		checkFails(t, impl.AddLight, p, x)
		checkFails(t, impl.AddLight, plan(square()), x)
	}
	for _, p := range brokenPlans() {
		checkFails(t, impl.AddLight, p, light(500, route(0, 0), 23, 1))
	}
}

func TestAddLightUpToTheLimit(t *testing.T) {
	p, ok := plan(square()), true
	for i := range impl.MaxLights {
		x := light(impl.MaxId-i*50, route(0, 0, 2), 2*i, 2)
		want := plan(square(), slices.Insert(slices.Clone(p.Lights), 0, x)...)
		check(t, impl.AddLight, in(p, x), out(want, true))
		p, ok = impl.AddLight(p, x)
		if !ok || len(p.Lights) != i+1 {
			t.Fatalf("light %d is not added: %v", i, p)
		}
	}
	// There is a slot on another fiber, but no room for one more light.
	checkFails(t, impl.AddLight, p, light(1, route(0, 1), 0, 1))
	fewer, _ := impl.RemoveLight(p, impl.MaxId)
	check(t, impl.AddLight, in(fewer, light(impl.MaxId, route(0, 1), 0, 1)), out(plan(square(), append(slices.Clone(fewer.Lights), light(impl.MaxId, route(0, 1), 0, 1))...), true))
}

func TestRemoveLight(t *testing.T) {
	for _, p := range allPlans() {
		for i, x := range p.Lights {
			check(t, impl.RemoveLight, in(p, x.Id), out(plan(p.Network, slices.Delete(slices.Clone(p.Lights), i, i+1)...), true))
		}
	}
	for _, id := range []int{0, 1, 31, -3, 1000, minInt, maxInt} {
		checkFails(t, impl.RemoveLight, samplePlans()[6], id)
	}
	checkFails(t, impl.RemoveLight, samplePlans()[2], 1)
	for _, p := range brokenPlans() {
		checkFails(t, impl.RemoveLight, p, 1)
	}
}

func TestMoveLight(t *testing.T) {
	p := samplePlans()[3]
	x, y := p.Lights[0], p.Lights[1]
	check(t, impl.MoveLight, in(p, 2, route(1, 2), impl.Block{First: 5, Count: 2}), out(plan(p.Network, x, light(2, route(1, 2), 5, 2)), true))
	// Into slots of the same light, and to the place where it is.
	check(t, impl.MoveLight, in(p, 2, route(1, 2), impl.Block{First: 4, Count: 20}), out(plan(p.Network, x, light(2, route(1, 2), 4, 20)), true))
	check(t, impl.MoveLight, in(p, 1, route(2, 2, 0), impl.Block{First: 1, Count: 2}), out(plan(p.Network, light(1, route(2, 2, 0), 1, 2), y), true))
	check(t, impl.MoveLight, in(p, 2, y.Route, y.Block), out(p, true))
	// To other fibers, also below or into the block of the other light.
	check(t, impl.MoveLight, in(p, 1, route(0, 1, 3), impl.Block{First: 3, Count: 2}), out(plan(p.Network, light(1, route(0, 1, 3), 3, 2), y), true))
	checkFails(t, impl.MoveLight, p, 2, route(1, 2), impl.Block{First: 2, Count: 2})
	checkFails(t, impl.MoveLight, p, 2, route(1, 0), impl.Block{First: 0, Count: 1})
	checkFails(t, impl.MoveLight, p, 1, route(0, 0, 2), impl.Block{First: 1, Count: 3})
	checkFails(t, impl.MoveLight, p, 1, route(3, 3, 2), impl.Block{First: 4, Count: 9})
	for _, id := range []int{0, 3, -1, 1000, minInt, maxInt} {
		checkFails(t, impl.MoveLight, p, id, route(0, 1), impl.Block{First: 0, Count: 1})
	}
	for _, r := range badRoutes() {
		checkFails(t, impl.MoveLight, p, 2, r, impl.Block{First: 9, Count: 1})
	}
	for _, b := range badBlocks() {
		checkFails(t, impl.MoveLight, p, 2, route(0, 1), b)
	}
	for _, p := range brokenPlans() {
		checkFails(t, impl.MoveLight, p, 1, route(0, 0), impl.Block{First: 0, Count: 1})
	}
}
