package tests

import (
	"slices"
	"testing"

	"loop.example/g00897/impl"
)

// The tests of this file compare every function of chapter 11 with what the document states:
// ordinary inputs, the edge cases that the chapter names, and invalid inputs.

var rules = []int{impl.FitFirst, impl.FitLast, impl.FitBest}

var badRules = []int{0, 4, -1, minInt, maxInt}

// expectedFit returns the block that a rule finds, out of all blocks. It fails if there is none.
func expectedFit(mask int, count int, fit int) (impl.Block, bool) {
	blocks := expectedBlocks(mask, count)
	if len(blocks) == 0 {
		return impl.Block{}, false
	}
	switch fit {
	case impl.FitFirst:
		return blocks[0], true
	case impl.FitLast:
		return blocks[len(blocks)-1], true
	}
	return expectedBest(mask, count), true
}

// expectedPossible goes through all costs in ascending order, and returns a light for every route
// with this cost on which the rule finds a block.
func expectedPossible(p impl.Plan, list []impl.Format, d impl.Demand, fit int) []impl.Light {
	var lights []impl.Light
	masks := expectedMasks(p)
	usable, slots := expectedUsable(p.Network, list, expectedAll(p.Network, d.From, d.To), d.Rate)
	for cost := range impl.MaxSlots*impl.MaxNodes + 1 {
		for i, r := range usable {
			mask := 0
			for _, fiber := range r.Fibers {
				mask |= masks[fiber]
			}
			if b, ok := expectedFit(mask, slots[i], fit); ok && slots[i]*len(r.Fibers) == cost {
				lights = append(lights, impl.Light{Route: r, Block: b})
			}
		}
	}
	return lights
}

// expectedServe returns the plan after serving a demand, and the Id of the light, or 0.
func expectedServe(p impl.Plan, list []impl.Format, d impl.Demand, fit int) (impl.Plan, int) {
	lights := expectedPossible(p, list, d, fit)
	if len(lights) == 0 || len(p.Lights) == impl.MaxLights {
		return p, 0
	}
	x := lights[0]
	for x.Id = 1; slices.ContainsFunc(p.Lights, func(y impl.Light) bool { return y.Id == x.Id }); {
		x.Id++
	}
	q := plan(p.Network, append(slices.Clone(p.Lights), x)...)
	slices.SortFunc(q.Lights, func(a impl.Light, b impl.Light) int { return a.Id - b.Id })
	return q, x.Id
}

// expectedServed serves demands in an order.
func expectedServed(p impl.Plan, list []impl.Format, demands []impl.Demand, order []int, fit int) impl.Served {
	s := impl.Served{Plan: p, Ids: make([]int, len(demands))}
	for _, i := range order {
		s.Plan, s.Ids[i] = expectedServe(s.Plan, list, demands[i], fit)
		if s.Ids[i] == 0 {
			s.Blocked++
		}
	}
	return s
}

// upTo returns the numbers below count.
func upTo(count int) []int {
	list := []int{}
	for i := range count {
		list = append(list, i)
	}
	return list
}

// gaps is a plan on a single fiber with the free runs 0..9, 12..14 and 16..23.
func gaps() impl.Plan {
	return plan(network("a b", [4]int{0, 1, 100}), light(2, route(0, 0), 10, 2), light(4, route(1, 0), 15, 1))
}

func TestServeDemand(t *testing.T) {
	list := formats(1000, 10, 300, 20)
	// The rules choose different blocks, and the new lights get the Ids that are free.
	for fit, first := range map[int]int{impl.FitFirst: 0, impl.FitLast: 21, impl.FitBest: 12} {
		p := gaps()
		x := light(1, route(1, 0), first, 3)
		check(t, impl.ServeDemand, in(p, list, demand(1, 0, 55), fit), out(plan(p.Network, x, p.Lights[0], p.Lights[1]), 1, true))
		p.Lights[0].Id = 1
		x.Id = 2
		check(t, impl.ServeDemand, in(p, list, demand(1, 0, 55), fit), out(plan(p.Network, p.Lights[0], x, p.Lights[1]), 2, true))
	}
	n := square()
	check(t, impl.ServeDemand, in(plan(n), list, demand(0, 2, 50), impl.FitFirst), out(plan(n, light(1, route(0, 0, 2), 0, 3)), 1, true))
	// The second route is taken if there is no block on the first one, also if a block of free slots
	// differs from fiber to fiber.
	p := plan(n, light(1, route(0, 0), 0, 12), light(2, route(1, 2), 12, 10))
	check(t, impl.ServeDemand, in(p, list, demand(0, 2, 50), impl.FitLast),
		out(plan(n, p.Lights[0], p.Lights[1], light(3, route(0, 1, 3), 19, 5)), 3, true))
	check(t, impl.ServeDemand, in(p, list, demand(0, 2, 40), impl.FitLast),
		out(plan(n, p.Lights[0], p.Lights[1], light(3, route(0, 0, 2), 22, 2)), 3, true))
	// A demand without a usable route, or between nodes without a route, is blocked.
	for _, fit := range rules {
		check(t, impl.ServeDemand, in(p, list, demand(0, 2, 481), fit), out(p, 0, true))
		check(t, impl.ServeDemand, in(p, formats(50, 1000), demand(0, 2, 1), fit), out(p, 0, true))
		check(t, impl.ServeDemand, in(plan(parallels()), list, demand(0, 3, 1), fit), out(plan(parallels()), 0, true))
		check(t, impl.ServeDemand, in(plan(network("a b")), list, demand(1, 0, 1), fit), out(plan(network("a b")), 0, true))
		check(t, impl.ServeDemand, in(gaps(), list, demand(0, 1, 201), fit), out(gaps(), 0, true))
	}
}

func TestServeDemandAtEqualCosts(t *testing.T) {
	list := formats(1000, 10, 300, 20)
	// Both routes from a to c cost 6; with the rate 50 and one format the single fiber costs less.
	n := trap()
	check(t, impl.ServeDemand, in(plan(n), list, demand(0, 2, 60), impl.FitFirst), out(plan(n, light(1, route(0, 0, 2), 0, 3)), 1, true))
	check(t, impl.ServeDemand, in(plan(n), formats(1000, 10), demand(0, 2, 50), impl.FitFirst), out(plan(n, light(1, route(0, 1), 0, 5)), 1, true))
	check(t, impl.RouteChoices, in(plan(n), list, demand(0, 2, 60)),
		out([]impl.Light{light(0, route(0, 0, 2), 0, 3), light(0, route(0, 1), 0, 6), light(0, route(0, 0, 3, 4), 0, 6)}, true))
	check(t, impl.RouteChoices, in(plan(n), formats(1000, 10), demand(0, 2, 50)),
		out([]impl.Light{light(0, route(0, 1), 0, 5), light(0, route(0, 0, 2), 0, 5), light(0, route(0, 0, 3, 4), 0, 5)}, true))
	// Equal parallel fibers are taken in their order.
	n = parallels()
	s, ok := impl.ServeAll(plan(n), list, slices.Repeat([]impl.Demand{demand(1, 0, 480)}, 4), impl.FitBest)
	if !ok || s.Blocked != 1 || !slices.Equal(s.Ids, []int{1, 2, 3, 0}) {
		t.Fatalf("served %+v", s)
	}
	for i, x := range s.Plan.Lights {
		if x.Route.Fibers[0] != i {
			t.Errorf("light %d uses the fiber %d", x.Id, x.Route.Fibers[0])
		}
	}
}

func TestServeDemandUpToMaxLights(t *testing.T) {
	p := samplePlans()[8]
	d := demand(0, 7, 1)
	check(t, impl.ServeDemand, in(p, formats(20000, 1000), d, impl.FitFirst), out(p, 0, true))
	check(t, impl.ServeDemand, in(p, formats(20000, 1000), demand(0, 1, 1), impl.FitFirst), out(p, 0, true))
	p.Lights = p.Lights[:impl.MaxLights-1]
	x := light(1, route(0, 3), 22, 1)
	check(t, impl.ServeDemand, in(p, formats(20000, 1000), d, impl.FitFirst), out(plan(p.Network, append([]impl.Light{x}, p.Lights...)...), 1, true))
	// Ids run from 1 on without gaps, up to that of the last light.
	n := network("a b", [4]int{0, 1, 100})
	p = plan(n)
	for id := 1; id <= impl.MaxLights; id++ {
		q, got, ok := impl.ServeDemand(p, formats(1000, 10), demand(0, 1, 20), impl.FitFirst)
		if !ok || got != id || len(q.Lights) != id {
			t.Fatalf("light %d of %v: %v", got, q, ok)
		}
		p = q
	}
	check(t, impl.ServeDemand, in(p, formats(1000, 10), demand(0, 1, 20), impl.FitFirst), out(p, 0, true))
	p.Lights = p.Lights[:11]
	p.Lights[10].Id = impl.MaxId
	q := plan(n, append(slices.Clone(p.Lights[:10]), light(11, route(0, 0), 22, 2), p.Lights[10])...)
	check(t, impl.ServeDemand, in(p, formats(1000, 10), demand(0, 1, 20), impl.FitFirst), out(q, 11, true))
}

func TestServeAllAndServeInOrder(t *testing.T) {
	n, list := square(), formats(1000, 10, 300, 20)
	demands := []impl.Demand{demand(0, 1, 50), demand(0, 2, 50), demand(0, 2, 50)}
	check(t, impl.ServeAll, in(plan(n), list, demands, impl.FitFirst), out(impl.Served{
		Plan: plan(n, light(1, route(0, 0), 0, 3), light(2, route(0, 0, 2), 3, 3), light(3, route(0, 0, 2), 6, 3)), Ids: []int{1, 2, 3}}, true))
	// The costs are 3, 6 and 6, so that the first demand is served last.
	check(t, impl.ServeInOrder, in(plan(n), list, demands, impl.FitFirst), out(impl.Served{
		Plan: plan(n, light(1, route(0, 0, 2), 0, 3), light(2, route(0, 0, 2), 3, 3), light(3, route(0, 0), 6, 3)), Ids: []int{3, 1, 2}}, true))
	// A demand that no rule can place: ServeInOrder needs a route for it, but not a block.
	blocked := []impl.Demand{demand(0, 1, 481), demand(0, 1, 20)}
	for _, fit := range rules {
		s := expectedServed(plan(n), list, blocked, upTo(2), fit)
		check(t, impl.ServeAll, in(plan(n), list, blocked, fit), out(impl.Served{Plan: s.Plan, Ids: []int{0, 1}, Blocked: 1}, true))
		checkFails(t, impl.ServeInOrder, plan(n), list, blocked, fit)
		check(t, impl.ServeAll, in(plan(n), list, []impl.Demand{}, fit), out(impl.Served{Plan: plan(n)}, true))
		check(t, impl.ServeInOrder, in(gaps(), list, []impl.Demand{}, fit), out(impl.Served{Plan: gaps()}, true))
		check(t, impl.ServeInOrder, in(gaps(), list, []impl.Demand{demand(0, 1, 201)}, fit), out(impl.Served{Plan: gaps(), Ids: []int{0}, Blocked: 1}, true))
	}
	full := slices.Repeat([]impl.Demand{demand(0, 1, 40)}, impl.MaxDemands)
	for _, f := range []any{impl.ServeAll, impl.ServeInOrder} {
		for _, fit := range rules {
			s := expectedServed(plan(n), list, full, upTo(impl.MaxDemands), fit)
			check(t, f, in(plan(n), list, full, fit), out(s, true))
			if s.Blocked != 0 || s.Ids[11] != 12 {
				t.Errorf("served %+v", s)
			}
			checkFails(t, f, plan(n), list, append(slices.Clone(full), demand(0, 1, 40)), fit)
		}
	}
	// All lights together are too many.
	p := plan(n, light(7, route(0, 1), 0, 1), light(9, route(0, 1), 1, 1))
	s := expectedServed(p, list, full, upTo(impl.MaxDemands), impl.FitLast)
	check(t, impl.ServeAll, in(p, list, full, impl.FitLast), out(s, true))
	if s.Blocked != 2 || !slices.Equal(s.Ids, []int{1, 2, 3, 4, 5, 6, 8, 10, 11, 12, 0, 0}) {
		t.Errorf("served %+v", s)
	}
}

func TestBestRule(t *testing.T) {
	n, list := network("a b", [4]int{0, 1, 100}), formats(100, 10)
	check(t, impl.BestRule, in(plan(n), list, []impl.Demand{}), out(impl.FitFirst, 0, true))
	check(t, impl.BestRule, in(plan(n), list, []impl.Demand{demand(0, 1, 240), demand(0, 1, 10)}), out(impl.FitFirst, 1, true))
	// The free runs have 7 and 6 slots, which is too little for 6, 5 and 2 if 6 get the first place.
	p := plan(n, light(1, route(0, 0), 7, 1), light(2, route(0, 0), 14, 10))
	demands := []impl.Demand{demand(0, 1, 20), demand(0, 1, 50), demand(0, 1, 60)}
	check(t, impl.BestRule, in(p, list, demands), out(impl.FitLast, 0, true))
	p = plan(n, light(1, route(0, 0), 0, 10), light(2, route(0, 0), 16, 1))
	check(t, impl.BestRule, in(p, list, demands), out(impl.FitFirst, 0, true))
	// The free runs have 7, 6 and 7 slots for 6, 5, 5, 2 and 2.
	p = plan(n, light(1, route(0, 0), 7, 1), light(2, route(0, 0), 14, 1), light(3, route(0, 0), 22, 2))
	demands = append(demands, demand(0, 1, 50), demand(1, 0, 20))
	check(t, impl.BestRule, in(p, list, demands), out(impl.FitBest, 0, true))
	demands = append(demands, demand(0, 1, 100))
	check(t, impl.BestRule, in(p, list, demands), out(impl.FitBest, 1, true))
}

func TestRouteChoices(t *testing.T) {
	n, list := square(), formats(1000, 10, 300, 20)
	check(t, impl.RouteChoices, in(plan(n), list, demand(0, 2, 50)),
		out([]impl.Light{light(0, route(0, 0, 2), 0, 3), light(0, route(0, 1, 3), 0, 5)}, true))
	p := plan(n, light(1, route(0, 0), 0, 12), light(2, route(1, 2), 12, 10), light(3, route(0, 1), 2, 3))
	check(t, impl.RouteChoices, in(p, list, demand(0, 2, 50)), out([]impl.Light{light(0, route(0, 1, 3), 5, 5)}, true))
	check(t, impl.RouteChoices, in(p, list, demand(0, 2, 481)), out([]impl.Light{}, true))
	check(t, impl.RouteChoices, in(plan(parallels()), list, demand(0, 3, 1)), out([]impl.Light{}, true))
	// The choices do not depend on how many lights there are.
	full := samplePlans()[8]
	check(t, impl.RouteChoices, in(full, formats(5000, 1000), demand(0, 1, 1)), out(expectedPossible(full, formats(5000, 1000), demand(0, 1, 1), impl.FitFirst), true))
}

func TestReleaseAll(t *testing.T) {
	p := samplePlans()[6]
	release := func(ids ...int) impl.Served { return impl.Served{Plan: p, Ids: ids} }
	check(t, impl.ReleaseAll, in(release()), out(p, true))
	check(t, impl.ReleaseAll, in(release(0, 0)), out(p, true))
	check(t, impl.ReleaseAll, in(release(30)), out(plan(p.Network, p.Lights[0], p.Lights[2]), true))
	check(t, impl.ReleaseAll, in(release(300, 0, 3)), out(plan(p.Network, p.Lights[1]), true))
	check(t, impl.ReleaseAll, in(release(30, 300, 3)), out(plan(p.Network), true))
	check(t, impl.ReleaseAll, in(release(30, 30)), out(plan(p.Network, p.Lights[0], p.Lights[2]), true))
	check(t, impl.ReleaseAll, in(impl.Served{Plan: p, Ids: []int{3}, Blocked: -7}), out(plan(p.Network, p.Lights[1], p.Lights[2]), true))
	for _, id := range []int{1, 2, 4, -3, 301, 999, 1000, minInt, maxInt} {
		checkFails(t, impl.ReleaseAll, release(id))
		checkFails(t, impl.ReleaseAll, release(3, 0, id))
		checkFails(t, impl.ReleaseAll, release(id, 30))
	}
	for _, p := range brokenPlans() {
		checkFails(t, impl.ReleaseAll, impl.Served{Plan: p})
		checkFails(t, impl.ReleaseAll, impl.Served{Plan: p, Ids: []int{1}})
	}
}

func TestAssignmentFails(t *testing.T) {
	n, list := square(), formats(1000, 10, 300, 20)
	for _, fit := range badRules {
		checkFails(t, impl.ServeDemand, plan(n), list, demand(0, 1, 5), fit)
		checkFails(t, impl.ServeDemand, plan(n), list, demand(0, 1, 1000), fit)
		for _, f := range []any{impl.ServeAll, impl.ServeInOrder} {
			checkFails(t, f, plan(n), list, []impl.Demand{demand(0, 1, 5)}, fit)
			checkFails(t, f, plan(n), list, []impl.Demand{}, fit)
		}
	}
	// failing calls all functions with a plan, formats and a demand one of which is not valid.
	failing := func(p impl.Plan, list []impl.Format, d impl.Demand) {
		for _, fit := range rules {
			checkFails(t, impl.ServeDemand, p, list, d, fit)
			checkFails(t, impl.ServeAll, p, list, []impl.Demand{demand(0, 1, 5), d}, fit)
			checkFails(t, impl.ServeInOrder, p, list, []impl.Demand{d, demand(0, 1, 5)}, fit)
		}
		checkFails(t, impl.BestRule, p, list, []impl.Demand{demand(0, 1, 5), d})
		checkFails(t, impl.RouteChoices, p, list, d)
	}
	for _, d := range badDemands() {
		failing(plan(n), list, d)
	}
	for _, list := range badFormats() {
		failing(plan(n), list, demand(0, 1, 5))
		checkFails(t, impl.ServeAll, plan(n), list, []impl.Demand{}, impl.FitFirst)
		checkFails(t, impl.BestRule, plan(n), list, []impl.Demand{})
	}
	for _, p := range brokenPlans() {
		failing(p, list, demand(0, 1, 5))
		checkFails(t, impl.ServeAll, p, list, []impl.Demand{}, impl.FitFirst)
		checkFails(t, impl.ServeInOrder, p, list, []impl.Demand{}, impl.FitFirst)
		checkFails(t, impl.BestRule, p, list, []impl.Demand{})
	}
	checkFails(t, impl.BestRule, plan(n), list, slices.Repeat([]impl.Demand{demand(0, 1, 5)}, impl.MaxDemands+1))
	checkFails(t, impl.BestRule, plan(n), list, []impl.Demand{demand(0, 1, 481)})
}

// TestAssignmentOfSamples serves random demands in random plans.
func TestAssignmentOfSamples(t *testing.T) {
	next := numbers(11)
	best, blocked := map[int]int{}, 0
	for _, p := range append(samplePlans(), randomPlans(60)...) {
		list := sampleFormats()[next(8)]
		demands := append(randomDemands(p.Network, next), randomDemands(p.Network, next)...)
		order, ordered := impl.OrderDemands(p.Network, list, demands)
		fewest, bestRule := maxInt, 0
		for _, fit := range rules {
			s := expectedServed(p, list, demands, upTo(len(demands)), fit)
			check(t, impl.ServeAll, in(p, list, demands, fit), out(s, true))
			blocked += s.Blocked
			for _, d := range demands {
				q, id := expectedServe(p, list, d, fit)
				check(t, impl.ServeDemand, in(p, list, d, fit), out(q, id, true))
			}
			if !ordered {
				checkFails(t, impl.ServeInOrder, p, list, demands, fit)
				continue
			}
			s = expectedServed(p, list, demands, order, fit)
			check(t, impl.ServeInOrder, in(p, list, demands, fit), out(s, true))
			if s.Blocked < fewest {
				fewest, bestRule = s.Blocked, fit
			}
		}
		for _, d := range demands {
			check(t, impl.RouteChoices, in(p, list, d), out(expectedPossible(p, list, d, impl.FitFirst), true))
		}
		if ordered {
			check(t, impl.BestRule, in(p, list, demands), out(bestRule, fewest, true))
			best[bestRule]++
		} else {
			checkFails(t, impl.BestRule, p, list, demands)
		}
	}
	if blocked < 20 || best[impl.FitFirst] < 5 {
		t.Errorf("only %d demands are blocked, and the best rules are %v", blocked, best)
	}
}
