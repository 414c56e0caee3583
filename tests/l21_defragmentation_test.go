package tests

import (
	"slices"
	"testing"

	"loop.example/g00897/impl"
)

// The tests of this file compare every function of chapter 21 with what the document states:
// ordinary inputs, the edge cases that the chapter names, and invalid inputs.

var badLimits = []int{-1, 61, minInt, maxInt}

// expectedHeight returns the greatest slot that a light has, and 1.
func expectedHeight(p impl.Plan) int {
	height := 0
	for _, x := range p.Lights {
		for _, s := range slotsOf(x) {
			height = max(height, s[1]+1)
		}
	}
	return height
}

// expectedLowest tries the slots from the lowest one.
func expectedLowest(p impl.Plan, id int, hitless bool) int {
	old, _ := lightOf(p.Lights, id)
	for first := range old.Block.First {
		x := light(id, old.Route, first, old.Block.Count)
		if len(expectedColliding(p, x)) == 0 && (!hitless || apart(x.Block, old.Block)) {
			return first
		}
	}
	return old.Block.First
}

// lowered returns the plan in which a light has another First.
func lowered(p impl.Plan, id int, first int) impl.Plan {
	lights := slices.Clone(p.Lights)
	for i := range lights {
		if lights[i].Id == id {
			lights[i].Block.First = first
		}
	}
	return plan(p.Network, lights...)
}

// expectedDefrag moves lights until none can be moved, at most limit times.
func expectedDefrag(p impl.Plan, hitless bool, limit int) (impl.Plan, []int) {
	moved := []int{}
	for len(moved) < limit {
		at := slices.IndexFunc(p.Lights, func(x impl.Light) bool { return expectedLowest(p, x.Id, hitless) < x.Block.First })
		if at < 0 {
			break
		}
		id := p.Lights[at].Id
		p = lowered(p, id, expectedLowest(p, id, hitless))
		moved = append(moved, id)
	}
	return p, moved
}

// gapped has lights that can be moved, and others that cannot.
func gapped() impl.Plan {
	return plan(square(), light(2, route(0, 0), 0, 3), light(4, route(1, 0), 4, 3), light(6, route(0, 0, 2), 12, 4), light(8, route(1, 2), 2, 1), light(9, route(0, 1, 3), 5, 4))
}

// winding has lights that go below each other 68 times in hitless moves. The Ids are those of its
// lights in order.
func winding(ids ...int) impl.Plan {
	p := plan(chain(2, 2, 2, 2, 2, 2, 2),
		light(0, route(1, 2, 4), 8, 3), light(0, route(1, 2, 5, 7, 9, 11, 12), 12, 3), light(0, route(0, 1, 3, 4, 6, 8, 11, 12), 20, 1), light(0, route(1, 3, 4, 6, 9, 10, 12), 17, 1),
		light(0, route(1, 2, 5, 6, 9, 10), 19, 1), light(0, route(0, 0, 2, 4, 6, 8, 10, 13), 22, 1), light(0, route(1, 3, 4, 7, 8), 18, 1), light(0, route(1, 2, 5, 7, 8), 16, 1),
		light(0, route(0, 0, 3, 4, 6, 8), 13, 1), light(0, route(2, 4, 6, 8, 10, 13), 12, 1), light(0, route(3, 7, 8, 10), 6, 3), light(0, route(1, 3, 5, 6, 9), 3, 3))
	for i, id := range ids {
		p.Lights[i].Id = id
	}
	return p
}

func TestPlanHeight(t *testing.T) {
	check(t, impl.PlanHeight, in(gapped()), out(16, true))
	check(t, impl.PlanHeight, in(plan(square())), out(0, true))
	check(t, impl.PlanHeight, in(plan(network("a b"))), out(0, true))
	check(t, impl.PlanHeight, in(plan(square(), light(7, route(0, 0), 0, 1))), out(1, true))
	check(t, impl.PlanHeight, in(plan(square(), light(7, route(0, 0), 0, 24))), out(24, true))
	check(t, impl.PlanHeight, in(plan(square(), light(7, route(0, 0), 9, 2), light(8, route(0, 1), 3, 1))), out(11, true))
	for _, p := range allPlans() {
		check(t, impl.PlanHeight, in(p), out(expectedHeight(p), true))
	}
	for _, p := range brokenPlans() {
		checkFails(t, impl.PlanHeight, p)
	}
}

func TestLowestFirst(t *testing.T) {
	p := gapped()
	for id, want := range map[int][2]int{2: {0, 0}, 4: {3, 4}, 6: {7, 7}, 8: {0, 0}, 9: {0, 0}} {
		check(t, impl.LowestFirst, in(p, id, false), out(want[0], true))
		check(t, impl.LowestFirst, in(p, id, true), out(want[1], true))
	}
	// A light that can be moved below others, to slots next to its own ones, and past its own ones.
	at := func(first int, count int) impl.Plan {
		return plan(square(), light(1, route(0, 0), 3, 2), light(5, route(0, 0, 2), first, count))
	}
	check(t, impl.LowestFirst, in(at(5, 3), 5, true), out(0, true))
	check(t, impl.LowestFirst, in(at(7, 4), 5, true), out(7, true))
	check(t, impl.LowestFirst, in(at(7, 4), 5, false), out(5, true))
	check(t, impl.LowestFirst, in(at(9, 4), 5, true), out(5, true))
	check(t, impl.LowestFirst, in(at(8, 4), 5, true), out(8, true))
	check(t, impl.LowestFirst, in(at(5, 19), 5, false), out(5, true))
	check(t, impl.LowestFirst, in(at(1, 2), 5, false), out(0, true))
	check(t, impl.LowestFirst, in(at(1, 2), 5, true), out(1, true))
	check(t, impl.LowestFirst, in(at(2, 1), 5, true), out(0, true))
	check(t, impl.LowestFirst, in(at(5, 2), 1, true), out(0, true))
	check(t, impl.LowestFirst, in(plan(square(), light(1, route(0, 0), 0, 24)), 1, false), out(0, true))
	check(t, impl.LowestFirst, in(plan(square(), light(1, route(0, 0), 12, 12)), 1, true), out(0, true))
	check(t, impl.LowestFirst, in(plan(square(), light(1, route(0, 0), 11, 13)), 1, true), out(11, true))
	check(t, impl.LowestFirst, in(plan(square(), light(1, route(0, 0), 11, 13)), 1, false), out(0, true))
	for _, hitless := range []bool{false, true} {
		for _, id := range []int{0, 1, 3, 10, -2, 1000, minInt, maxInt} {
			checkFails(t, impl.LowestFirst, p, id, hitless)
		}
		checkFails(t, impl.LowestFirst, plan(network("a b")), 1, hitless)
		for _, p := range brokenPlans() {
			checkFails(t, impl.LowestFirst, p, 1, hitless)
			checkFails(t, impl.DefragStep, p, hitless)
			checkFails(t, impl.Defragment, p, hitless, 60)
			checkFails(t, impl.Defragment, p, hitless, 0)
			checkFails(t, impl.IsCompact, p, hitless)
		}
	}
}

func TestDefragStep(t *testing.T) {
	p := gapped()
	check(t, impl.DefragStep, in(p, false), out(lowered(p, 4, 3), 4, true))
	check(t, impl.DefragStep, in(p, true), out(lowered(p, 6, 7), 6, true))
	check(t, impl.DefragStep, in(plan(square()), false), out(plan(square()), 0, true))
	check(t, impl.DefragStep, in(plan(network("a b")), true), out(plan(network("a b")), 0, true))
	full := plan(square(), light(1, route(0, 0), 0, 12), light(2, route(0, 0), 12, 12))
	check(t, impl.DefragStep, in(full, false), out(full, 0, true))
	// Only moves into slots of the same light are left.
	only := plan(square(), light(1, route(0, 0), 1, 2))
	check(t, impl.DefragStep, in(only, true), out(only, 0, true))
	check(t, impl.DefragStep, in(only, false), out(lowered(only, 1, 0), 1, true))
}

func TestDefragment(t *testing.T) {
	p := gapped()
	check(t, impl.Defragment, in(p, true, 60), out(plan(p.Network, light(2, route(0, 0), 0, 3), light(4, route(1, 0), 4, 3), light(6, route(0, 0, 2), 7, 4), light(8, route(1, 2), 0, 1), light(9, route(0, 1, 3), 0, 4)), []int{6, 8, 9}, true))
	check(t, impl.Defragment, in(p, false, 60), out(plan(p.Network, light(2, route(0, 0), 0, 3), light(4, route(1, 0), 3, 3), light(6, route(0, 0, 2), 6, 4), light(8, route(1, 2), 0, 1), light(9, route(0, 1, 3), 0, 4)), []int{4, 6, 8, 9}, true))
	check(t, impl.Defragment, in(p, false, 0), out(p, []int{}, true))
	check(t, impl.Defragment, in(p, true, 0), out(p, []int{}, true))
	check(t, impl.Defragment, in(p, false, 1), out(lowered(p, 4, 3), []int{4}, true))
	check(t, impl.Defragment, in(p, false, 2), out(lowered(lowered(p, 4, 3), 6, 6), []int{4, 6}, true))
	check(t, impl.Defragment, in(plan(square()), true, 60), out(plan(square()), []int{}, true))
	check(t, impl.Defragment, in(plan(network("a b")), false, 60), out(plan(network("a b")), []int{}, true))
	// A light is moved again after another one has made room for it.
	again := plan(square(), light(1, route(0, 0), 6, 3), light(2, route(1, 0), 2, 2))
	check(t, impl.Defragment, in(again, false, 60), out(lowered(lowered(again, 1, 2), 2, 0), []int{1, 2, 1}, true))
	for _, limit := range badLimits {
		checkFails(t, impl.Defragment, p, true, limit)
		checkFails(t, impl.Defragment, plan(square()), false, limit)
	}
}

// TestDefragmentUpToTheLimit has more moves than the greatest limit.
func TestDefragmentUpToTheLimit(t *testing.T) {
	p := winding(101, 102, 103, 104, 105, 106, 107, 108, 109, 110, 111, 112)
	end, all := expectedDefrag(p, true, 1000)
	if len(all) != 68 {
		t.Errorf("there are %d moves", len(all))
	}
	for _, limit := range []int{1, 30, 59, 60} {
		part, ids := expectedDefrag(p, true, limit)
		check(t, impl.Defragment, in(p, true, limit), out(part, ids, true))
		check(t, impl.IsCompact, in(part, true), out(false, true))
	}
	part, _ := expectedDefrag(p, true, 60)
	check(t, impl.Defragment, in(part, true, 60), out(end, all[60:], true))
	check(t, impl.IsCompact, in(end, true), out(true, true))
}

// crowded returns plans whose lights have many slots free below them.
func crowded() []impl.Plan {
	next := numbers(21)
	var list []impl.Plan
	for _, n := range []impl.Network{square(), parallels(), trap(), kite(), hub(), pentagon(), network("a b", [4]int{0, 1, 9})} {
		routes := expectedRoutes(n)
		for range 12 {
			p := plan(n)
			for id := 1 + next(9); len(p.Lights) < impl.MaxLights && id < 200; id += 1 + next(9) {
				count := 1 + next(4)
				x := light(id, routes[next(len(routes))], impl.MaxSlots-count-next(impl.MaxSlots/2), count)
				if len(expectedColliding(p, x)) == 0 {
					p.Lights = append(p.Lights, x)
				}
			}
			list = append(list, p)
		}
	}
	return list
}

func TestDefragmentSamples(t *testing.T) {
	next := numbers(211)
	steps, differ, most := 0, 0, 0
	for _, p := range append(allPlans(), crowded()...) {
		var ends [2]impl.Plan
		for i, hitless := range []bool{false, true} {
			for _, x := range p.Lights {
				check(t, impl.LowestFirst, in(p, x.Id, hitless), out(expectedLowest(p, x.Id, hitless), true))
			}
			q, ids := expectedDefrag(p, hitless, 60)
			check(t, impl.Defragment, in(p, hitless, 60), out(q, ids, true))
			limit := next(len(ids) + 2)
			part, moved := expectedDefrag(p, hitless, limit)
			check(t, impl.Defragment, in(p, hitless, limit), out(part, moved, true))
			first, one := expectedDefrag(p, hitless, 1)
			check(t, impl.DefragStep, in(p, hitless), out(first, append(one, 0)[0], true))
			check(t, impl.IsCompact, in(p, hitless), out(len(ids) == 0, true))
			check(t, impl.IsCompact, in(q, hitless), out(true, true))
			steps, most, ends[i] = steps+len(ids), max(most, len(ids)), q
		}
		if !samePlan(ends[0], ends[1]) {
			differ++
		}
	}
	if steps < 500 || differ < 30 || most < 15 {
		t.Errorf("%d lights are moved, at most %d in a plan, and %d plans differ", steps, most, differ)
	}
}

// expectedFragmentation returns the fragmentation of every fiber.
func expectedFragmentation(p impl.Plan) ([]int, int) {
	list, greatest := []int{}, 0
	for _, mask := range expectedMasks(p) {
		free, longest, value := 0, 0, 0
		for _, run := range expectedRuns(mask) {
			free, longest = free+run.Count, max(longest, run.Count)
		}
		if free > 0 {
			quotient := 1000 * longest / free
			if quotient*free < 1000*longest {
				quotient++
			}
			value = 1000 - quotient
		}
		list, greatest = append(list, value), max(greatest, value)
	}
	return list, greatest
}

func TestFragmentationOf(t *testing.T) {
	check(t, impl.FragmentationOf, in(gapped()), out([]int{428, 250, 526, 250}, 526, true))
	check(t, impl.FragmentationOf, in(plan(square())), out([]int{0, 0, 0, 0}, 0, true))
	check(t, impl.FragmentationOf, in(plan(network("a b"))), out([]int{}, 0, true))
	// A fiber without free slots, and one with one free slot.
	check(t, impl.FragmentationOf, in(plan(square(), light(1, route(0, 0), 0, 24), light(2, route(0, 1), 1, 23))), out([]int{0, 0, 0, 0}, 0, true))
	check(t, impl.FragmentationOf, in(plan(square(), light(1, route(1, 2), 1, 22))), out([]int{0, 0, 500, 0}, 500, true))
	for _, p := range append(allPlans(), crowded()...) {
		list, greatest := expectedFragmentation(p)
		check(t, impl.FragmentationOf, in(p), out(list, greatest, true))
	}
	for _, p := range brokenPlans() {
		checkFails(t, impl.FragmentationOf, p)
	}
}

// requestsFor returns the requests for the lights of a plan.
func requestsFor(p impl.Plan) []impl.Request {
	list := []impl.Request{}
	for _, x := range p.Lights {
		list = append(list, request(x.Block.Count, x.Route))
	}
	return list
}

// withBlocks returns the plan in which the lights have other blocks.
func withBlocks(p impl.Plan, blocks []impl.Block) impl.Plan {
	lights := slices.Clone(p.Lights)
	for i := range lights {
		lights[i].Block = blocks[i]
	}
	return plan(p.Network, lights...)
}

func TestCompactPlan(t *testing.T) {
	p := gapped()
	check(t, impl.LowestHeight, in(p), out(10, true))
	check(t, impl.CompactPlan, in(p), out(withBlocks(p, blocksOf(0, 3, 3, 3, 6, 4, 0, 1, 0, 4)), true))
	check(t, impl.LowestHeight, in(plan(square())), out(0, true))
	check(t, impl.CompactPlan, in(plan(square())), out(plan(square()), true))
	check(t, impl.LowestHeight, in(plan(network("a b"))), out(0, true))
	check(t, impl.CompactPlan, in(plan(network("a b"))), out(plan(network("a b")), true))
	// The first lights get the lowest slots, also if they have been above, or were lower before.
	p = plan(square(), light(1, route(0, 0), 20, 4), light(2, route(0, 0), 0, 2), light(3, route(0, 0, 2), 2, 3), light(4, route(2, 2), 9, 1))
	check(t, impl.CompactPlan, in(p), out(withBlocks(p, blocksOf(0, 4, 4, 2, 6, 3, 0, 1)), true))
	check(t, impl.LowestHeight, in(p), out(9, true))
	// A light is raised where the smallest height asks for it.
	p = plan(chainOf(1, 1, 1), light(1, route(0, 0), 0, 2), light(2, route(0, 0, 1), 2, 2), light(3, route(1, 1, 2), 4, 3), light(4, route(2, 2), 0, 2))
	check(t, impl.LowestHeight, in(p), out(5, true))
	// Exactly MaxRequests lights and one more.
	p = plan(square())
	for i := range impl.MaxRequests {
		p.Lights = append(p.Lights, light(i+1, route(0, 0), 3*i+2, 1))
	}
	check(t, impl.LowestHeight, in(p), out(7, true))
	check(t, impl.CompactPlan, in(p), out(withBlocks(p, blocksOf(0, 1, 1, 1, 2, 1, 3, 1, 4, 1, 5, 1, 6, 1)), true))
	p.Lights = append(p.Lights, light(99, route(0, 1), 3, 1))
	checkFails(t, impl.LowestHeight, p)
	checkFails(t, impl.CompactPlan, p)
	check(t, impl.PlanHeight, in(p), out(21, true))
	for _, p := range brokenPlans() {
		checkFails(t, impl.LowestHeight, p)
		checkFails(t, impl.CompactPlan, p)
	}
}

func TestCompactSamples(t *testing.T) {
	compact, tooMany := 0, 0
	for _, p := range append(allPlans(), crowded()...) {
		if len(p.Lights) > impl.MaxRequests {
			checkFails(t, impl.LowestHeight, p)
			checkFails(t, impl.CompactPlan, p)
			tooMany++
			p = plan(p.Network, p.Lights[:1+len(p.Lights)%5]...)
		}
		if len(p.Lights) > 5 {
			continue
		}
		blocks, height := expectedExact(p.Network, requestsFor(p))
		check(t, impl.LowestHeight, in(p), out(height, true))
		check(t, impl.CompactPlan, in(p), out(withBlocks(p, blocks), true))
		compact++
	}
	if compact < 60 || tooMany < 20 {
		t.Errorf("%d plans are compared, and %d have too many lights", compact, tooMany)
	}
}
