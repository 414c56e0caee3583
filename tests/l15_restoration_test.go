package tests

import (
	"reflect"
	"slices"
	"testing"

	"loop.example/g00897/impl"
)

// The tests of this file compare every function of chapter 15 with what the document states:
// ordinary inputs, the edge cases that the chapter names, and invalid inputs.

func restoration(p impl.Plan, home []impl.Light, down ...int) impl.Restoration {
	return impl.Restoration{Plan: p, Home: home, Down: down}
}

// kite is a square a-b-c-d with a fiber a-c across: its routes from a to c are over b (fibers 0 and
// 3), over d (2 and 4), and direct (1), which is the longest one.
func kite() impl.Network {
	return network("a b c d", [4]int{0, 1, 100}, [4]int{0, 2, 300}, [4]int{0, 3, 100, 1}, [4]int{1, 2, 100}, [4]int{2, 3, 100, 1})
}

// kiteLights are lights of the kite with the same first slots: 1 over b, 2 and 4 on single fibers, 3
// over d.
func kiteLights() []impl.Light {
	return []impl.Light{light(1, route(0, 0, 3), 0, 20), light(2, route(0, 1), 4, 10), light(3, route(2, 4, 2), 0, 12), light(4, route(0, 0), 20, 4)}
}

// without returns the lights without those with some Ids.
func without(list []impl.Light, ids ...int) []impl.Light {
	return slices.DeleteFunc(slices.Clone(list), func(x impl.Light) bool { return slices.Contains(ids, x.Id) })
}

// lightOf returns the light with an Id.
func lightOf(list []impl.Light, id int) (impl.Light, bool) {
	i := slices.IndexFunc(list, func(x impl.Light) bool { return x.Id == id })
	if i < 0 {
		return impl.Light{}, false
	}
	return list[i], true
}

// isFree reports whether a light, with its Id not counted, has all its slots free of other lights,
// and no fiber that has failed.
func isFree(r impl.Restoration, x impl.Light) bool {
	return !have(x.Route.Fibers, r.Down) && len(expectedColliding(r.Plan, x)) == 0
}

// withLight returns the restoration with a light added or moved.
func withLight(r impl.Restoration, x impl.Light) impl.Restoration {
	lights := append(without(r.Plan.Lights, x.Id), x)
	slices.SortFunc(lights, func(a impl.Light, b impl.Light) int { return a.Id - b.Id })
	return restoration(plan(r.Plan.Network, lights...), r.Home, r.Down...)
}

// expectedPlace returns the place at which a waiting light is restored, out of all slots on all
// routes in order. It fails if there is none.
func expectedPlace(r impl.Restoration, home impl.Light) (impl.Light, bool) {
	if isFree(r, home) {
		return home, true
	}
	nodes := expectedNodes(r.Plan.Network, home.Route)
	for _, way := range expectedAll(r.Plan.Network, nodes[0], nodes[len(nodes)-1]) {
		for first := 0; first+home.Block.Count <= impl.MaxSlots; first++ {
			if x := light(home.Id, way, first, home.Block.Count); isFree(r, x) {
				return x, true
			}
		}
	}
	return impl.Light{}, false
}

// expectedFail, expectedRepair, expectedRestoreAll and expectedRevert do what the functions do that
// have their names.
func expectedFail(r impl.Restoration, fibers []int) (impl.Restoration, []int) {
	var down, removed []int
	for fiber := range r.Plan.Network.Fibers {
		if slices.Contains(r.Down, fiber) || slices.Contains(fibers, fiber) {
			down = append(down, fiber)
		}
	}
	for _, x := range r.Plan.Lights {
		if have(x.Route.Fibers, fibers) {
			removed = append(removed, x.Id)
		}
	}
	return restoration(plan(r.Plan.Network, without(r.Plan.Lights, removed...)...), r.Home, down...), removed
}

func expectedRepair(r impl.Restoration, fibers []int) impl.Restoration {
	return restoration(r.Plan, r.Home, slices.DeleteFunc(slices.Clone(r.Down), func(fiber int) bool { return slices.Contains(fibers, fiber) })...)
}

func expectedWaiting(r impl.Restoration) []int {
	ids := []int{}
	for _, x := range r.Home {
		if _, ok := lightOf(r.Plan.Lights, x.Id); !ok {
			ids = append(ids, x.Id)
		}
	}
	return ids
}

func expectedRestoreAll(r impl.Restoration) (impl.Restoration, []int) {
	var ids []int
	for _, id := range expectedWaiting(r) {
		home, _ := lightOf(r.Home, id)
		if x, ok := expectedPlace(r, home); ok {
			r = withLight(r, x)
			ids = append(ids, id)
		}
	}
	return r, ids
}

func expectedRevert(r impl.Restoration) (impl.Restoration, []int) {
	var ids []int
	for _, home := range r.Home {
		x, ok := lightOf(r.Plan.Lights, home.Id)
		if ok && !same(reflect.ValueOf(x), reflect.ValueOf(home)) && isFree(r, home) {
			r = withLight(r, home)
			ids = append(ids, home.Id)
		}
	}
	return r, ids
}

// expectedRun performs events one after the other.
func expectedRun(p impl.Plan, events []impl.FiberEvent) ([]int, impl.Restoration) {
	r, counts := restoration(p, p.Lights), []int{}
	for _, event := range events {
		if event.Fail {
			r, _ = expectedFail(r, event.Fibers)
		} else {
			r = expectedRepair(r, event.Fibers)
		}
		r, _ = expectedRestoreAll(r)
		r, _ = expectedRevert(r)
		counts = append(counts, len(expectedWaiting(r)))
	}
	return counts, r
}

// sampleRestorations returns valid restorations: at the start, after failures, and after restoring.
func sampleRestorations() []impl.Restoration {
	var list []impl.Restoration
	next := numbers(15)
	for _, p := range append(allPlans(), plan(kite(), kiteLights()...)) {
		r := restoration(p, p.Lights)
		list = append(list, r)
		for range 3 {
			r, _ = expectedFail(r, randomSet(len(p.Network.Fibers), next))
			list = append(list, r)
			r, _ = expectedRestoreAll(r)
			list = append(list, r)
			r = expectedRepair(r, randomSet(len(p.Network.Fibers), next))
			list = append(list, r)
		}
	}
	return list
}

// randomSet returns up to three different numbers below limit in ascending order.
func randomSet(limit int, next func(limit int) int) []int {
	list := []int{}
	for range next(4) {
		if limit > 0 {
			list = append(list, next(limit))
		}
	}
	slices.Sort(list)
	return slices.Compact(list)
}

// brokenRestorations returns restorations each of which breaks one rule.
func brokenRestorations() []impl.Restoration {
	n, home := kite(), kiteLights()
	list := []impl.Restoration{{}, restoration(plan(n), nil, 5), restoration(plan(n), nil, -1), restoration(plan(n), nil, 1, 1), restoration(plan(n), nil, 2, 1), restoration(plan(n), nil, maxInt)}
	// A light of the plan that uses a failed fiber, or is not in Home, with the same Id, ends and Count.
	for _, x := range []impl.Light{
		light(1, route(2, 3, 0), 0, 20), light(1, route(0, 0), 0, 20), light(1, route(1, 3), 0, 20), light(1, route(0, 1), 0, 19), light(1, route(0, 1), 0, 21),
		light(5, route(0, 0, 3), 0, 20), light(2, route(0, 0, 3), 0, 20), light(4, route(0, 0, 3), 0, 4),
	} {
		list = append(list, restoration(plan(n, x), home), restoration(plan(n, x), home, 4))
	}
	for fiber := range n.Fibers {
		list = append(list, restoration(plan(n, home...), home, fiber), restoration(plan(n, home...), home, 0, 1, 2, 3, 4))
	}
	// The lights of Home collide, are not in order, or are too many.
	list = append(list, restoration(plan(n), append(slices.Clone(home), light(5, route(0, 0), 19, 1))), restoration(plan(n), append(slices.Clone(home), light(4, route(0, 0), 9, 1))),
		restoration(plan(n, home[0]), []impl.Light{home[1], home[0]}), restoration(plan(n, home[0]), nil), restoration(plan(n, home...), home[:3]))
	for _, p := range brokenPlans() {
		list = append(list, restoration(p, nil), restoration(p, p.Lights), restoration(plan(p.Network), p.Lights))
	}
	return slices.DeleteFunc(list, func(r impl.Restoration) bool {
		return impl.IsValidPlan(r.Plan) && len(r.Home)+len(r.Down) == 0 && len(r.Plan.Lights) == 0
	})
}

func TestIsValidRestoration(t *testing.T) {
	for _, r := range sampleRestorations() {
		check(t, impl.IsValidRestoration, in(r), out(true))
	}
	for _, r := range brokenRestorations() {
		check(t, impl.IsValidRestoration, in(r), out(false))
	}
	n, home := kite(), kiteLights()
	check(t, impl.IsValidRestoration, in(restoration(plan(n), home, 0, 1, 2, 3, 4)), out(true))
	check(t, impl.IsValidRestoration, in(restoration(plan(n, home[1]), home, 0, 2, 3, 4)), out(true))
	check(t, impl.IsValidRestoration, in(restoration(plan(n, light(1, route(0, 2, 4), 4, 20)), home, 0, 1, 3)), out(true))
}

func TestStartRestoration(t *testing.T) {
	for _, p := range allPlans() {
		check(t, impl.StartRestoration, in(p), out(restoration(p, p.Lights), true))
	}
	for _, p := range brokenPlans() {
		checkFails(t, impl.StartRestoration, p)
		checkFails(t, impl.RunEvents, p, []impl.FiberEvent{})
	}
}

func TestFailAndRepairFibers(t *testing.T) {
	n, home := kite(), kiteLights()
	start := restoration(plan(n, home...), home)
	check(t, impl.FailFibers, in(start, []int{}), out(start, []int{}, true))
	check(t, impl.FailFibers, in(start, []int{0}), out(restoration(plan(n, home[1], home[2]), home, 0), []int{1, 4}, true))
	check(t, impl.FailFibers, in(start, []int{1, 3}), out(restoration(plan(n, home[2], home[3]), home, 1, 3), []int{1, 2}, true))
	// Fibers that have failed already stay so, and those that have not are repaired in vain.
	down := restoration(plan(n, home[1], home[2]), home, 0, 3)
	check(t, impl.FailFibers, in(down, []int{0, 3}), out(down, []int{}, true))
	check(t, impl.FailFibers, in(down, []int{0, 2}), out(restoration(plan(n, home[1]), home, 0, 2, 3), []int{3}, true))
	check(t, impl.FailFibers, in(down, []int{0, 1, 2, 3, 4}), out(restoration(plan(n), home, 0, 1, 2, 3, 4), []int{2, 3}, true))
	check(t, impl.RepairFibers, in(down, []int{}), out(down, true))
	check(t, impl.RepairFibers, in(down, []int{1, 2, 4}), out(down, true))
	check(t, impl.RepairFibers, in(down, []int{1, 3}), out(restoration(down.Plan, home, 0), true))
	check(t, impl.RepairFibers, in(down, []int{0, 1, 2, 3, 4}), out(restoration(down.Plan, home), true))
	for _, fibers := range [][]int{{5}, {-1}, {1, 1}, {1, 0}, {0, 5}, {minInt}, {maxInt}, {0, 1, 2, 3, 4, 5}} {
		checkFails(t, impl.FailFibers, start, fibers)
		checkFails(t, impl.FailFibers, down, fibers)
		checkFails(t, impl.RepairFibers, down, fibers)
	}
	next := numbers(151)
	for _, r := range sampleRestorations() {
		fibers := randomSet(len(r.Plan.Network.Fibers), next)
		failed, removed := expectedFail(r, fibers)
		check(t, impl.FailFibers, in(r, fibers), out(failed, removed, true))
		check(t, impl.RepairFibers, in(r, fibers), out(expectedRepair(r, fibers), true))
		check(t, impl.WaitingLights, in(r), out(expectedWaiting(r), true))
	}
}

func TestRestoreLight(t *testing.T) {
	n, home := kite(), kiteLights()
	// The old slots are free: the light goes back to its place, although shorter routes are free.
	r := restoration(plan(n, home[0], home[3]), home, 4)
	check(t, impl.RestoreLight, in(r, 2), out(withLight(r, home[1]), true, true))
	// A fiber of the route has failed: the first other route with a block is taken.
	r = restoration(plan(n, home[1], home[3]), home, 3)
	check(t, impl.RestoreLight, in(r, 1), out(withLight(r, light(1, route(0, 2, 4), 0, 20)), true, true))
	r = restoration(plan(n, home[2], home[3]), home, 3)
	check(t, impl.RestoreLight, in(r, 1), out(withLight(r, light(1, route(0, 1), 0, 20)), true, true))
	// The old slots are taken meanwhile: another block on the same route, which is the first one.
	n2 := network("a b c", [4]int{0, 1, 10}, [4]int{0, 2, 10}, [4]int{1, 2, 10})
	places := []impl.Light{light(1, route(0, 0), 0, 8), light(2, route(0, 1), 0, 8), light(3, route(0, 0), 8, 8)}
	moved := plan(n2, light(2, route(0, 0, 2), 0, 8))
	check(t, impl.RestoreLight, in(restoration(moved, places), 1), out(withLight(restoration(moved, places), light(1, route(0, 0), 8, 8)), true, true))
	// The other lights fill the fiber, so that only another route has a block.
	places[2].Block = block(8, 16)
	moved.Lights = append(moved.Lights, places[2])
	check(t, impl.RestoreLight, in(restoration(moved, places), 1), out(withLight(restoration(moved, places), light(1, route(0, 1, 2), 8, 8)), true, true))
	// It cannot be restored: no route without a failed fiber, or no block on any route.
	r = restoration(plan(n, home[1]), home, 0, 2)
	check(t, impl.RestoreLight, in(r, 4), out(withLight(r, light(4, route(0, 1, 3), 0, 4)), true, true))
	r = restoration(plan(n, home[1]), home, 0, 3)
	check(t, impl.RestoreLight, in(r, 4), out(r, false, true))
	r = restoration(plan(n, home[1], home[2]), home, 0)
	check(t, impl.RestoreLight, in(r, 1), out(r, false, true))
	for _, id := range []int{2, 3, 0, 5, -1, minInt, maxInt} {
		checkFails(t, impl.RestoreLight, r, id)
	}
}

func TestRestoreAllAndRevertLights(t *testing.T) {
	n, home := kite(), kiteLights()
	// The smaller Id is restored first, and takes the slots that light 3 would have taken.
	r := restoration(plan(n, home[1]), home, 0)
	want := restoration(plan(n, light(1, route(0, 2, 4), 0, 20), home[1], light(4, route(0, 2, 4, 3), 20, 4)), home, 0)
	check(t, impl.RestoreAll, in(r), out(want, []int{1, 4}, true))
	check(t, impl.RestoreAll, in(want), out(want, []int{}, true))
	check(t, impl.RevertLights, in(want), out(want, []int{}, true))
	// After the repair the lights move back, and then there is room for light 3 where it belongs.
	r = restoration(want.Plan, home)
	back := restoration(plan(n, home[0], home[1], home[3]), home)
	check(t, impl.RevertLights, in(r), out(back, []int{1, 4}, true))
	check(t, impl.RestoreAll, in(back), out(withLight(back, home[2]), []int{3}, true))
	// If it is restored before, it and light 1 are in the way of each other.
	stuck := withLight(r, light(3, route(2, 3, 0), 0, 12))
	check(t, impl.RestoreAll, in(r), out(stuck, []int{3}, true))
	check(t, impl.RevertLights, in(stuck), out(withLight(stuck, home[3]), []int{4}, true))
	// Light 2 is in the way of light 1, and moves only after it has been considered.
	n2 := network("a b", [4]int{0, 1, 10}, [4]int{0, 1, 20})
	places := []impl.Light{light(1, route(0, 0), 0, 8), light(2, route(0, 1), 0, 8)}
	r = restoration(plan(n2, light(1, route(0, 1), 8, 8), light(2, route(0, 0), 4, 8)), places)
	want = restoration(plan(n2, light(1, route(0, 1), 8, 8), places[1]), places)
	check(t, impl.RevertLights, in(r), out(want, []int{2}, true))
	check(t, impl.RevertLights, in(want), out(restoration(plan(n2, places...), places), []int{1}, true))
	// A light may overlap with its own old slots, and move on the same route.
	r = restoration(plan(n2, light(1, route(0, 0), 4, 8), places[1]), places)
	check(t, impl.RevertLights, in(r), out(restoration(plan(n2, places...), places), []int{1}, true))
	r.Down = []int{1}
	r.Plan.Lights = r.Plan.Lights[:1]
	check(t, impl.RevertLights, in(r), out(restoration(plan(n2, places[0]), places, 1), []int{1}, true))
	r = restoration(plan(n2, light(1, route(0, 1), 8, 8)), places, 0)
	check(t, impl.RevertLights, in(r), out(r, []int{}, true))
}

func TestRestorationOfSamples(t *testing.T) {
	restored, stuck, reverted, elsewhere := 0, 0, 0, 0
	for _, r := range sampleRestorations() {
		for _, id := range expectedWaiting(r) {
			home, _ := lightOf(r.Home, id)
			x, ok := expectedPlace(r, home)
			if !ok {
				check(t, impl.RestoreLight, in(r, id), out(r, false, true))
				stuck++
				continue
			}
			check(t, impl.RestoreLight, in(r, id), out(withLight(r, x), true, true))
			restored++
			if !same(reflect.ValueOf(x), reflect.ValueOf(home)) {
				elsewhere++
			}
		}
		all, ids := expectedRestoreAll(r)
		check(t, impl.RestoreAll, in(r), out(all, ids, true))
		back, ids := expectedRevert(r)
		check(t, impl.RevertLights, in(r), out(back, ids, true))
		reverted += len(ids)
		for _, x := range r.Plan.Lights {
			checkFails(t, impl.RestoreLight, r, x.Id)
		}
	}
	if restored < 100 || stuck < 50 || reverted < 20 || elsewhere < 50 {
		t.Errorf("%d lights are restored, %d of them elsewhere, %d are not, and %d are moved back", restored, elsewhere, stuck, reverted)
	}
}

func TestRunEvents(t *testing.T) {
	n, home := kite(), kiteLights()
	p := plan(n, home[:2]...)
	fail := func(fibers ...int) impl.FiberEvent { return impl.FiberEvent{Fail: true, Fibers: fibers} }
	repair := func(fibers ...int) impl.FiberEvent { return impl.FiberEvent{Fibers: fibers} }
	check(t, impl.RunEvents, in(p, []impl.FiberEvent{}), out([]int{}, restoration(p, p.Lights), true))
	check(t, impl.RunEvents, in(p, []impl.FiberEvent{fail(0, 2), repair(2)}),
		out([]int{1, 0}, restoration(plan(n, light(1, route(0, 2, 4), 0, 20), home[1]), home[:2], 0), true))
	check(t, impl.RunEvents, in(p, []impl.FiberEvent{fail(0, 2), repair(2), repair(0), repair(0), fail()}), out([]int{1, 0, 0, 0, 0}, restoration(p, p.Lights), true))
	// Events that fail.
	for _, event := range []impl.FiberEvent{fail(5), repair(5), fail(1, 1), repair(2, 1), fail(-1), repair(maxInt)} {
		checkFails(t, impl.RunEvents, p, []impl.FiberEvent{event})
		checkFails(t, impl.RunEvents, p, []impl.FiberEvent{fail(0), event, repair(0)})
		checkFails(t, impl.RunEvents, p, []impl.FiberEvent{fail(0), repair(0), event})
	}
	next := numbers(152)
	most := 0
	for k, p := range append(allPlans(), plan(n, home...), plan(n, home...)) {
		events := []impl.FiberEvent{}
		for range []int{3, 10, impl.MaxFailures}[k%3] {
			events = append(events, impl.FiberEvent{Fail: next(2) == 0, Fibers: randomSet(len(p.Network.Fibers), next)})
		}
		counts, r := expectedRun(p, events)
		check(t, impl.RunEvents, in(p, events), out(counts, r, true))
		most = max(most, slices.Max(counts))
	}
	if most < 5 {
		t.Errorf("at most %d lights wait", most)
	}
	// MaxFailures events and one more.
	many := slices.Repeat([]impl.FiberEvent{fail(0), repair(0)}, impl.MaxFailures/2)
	check(t, impl.RunEvents, in(p, many), out(make([]int, impl.MaxFailures), restoration(p, p.Lights), true))
	checkFails(t, impl.RunEvents, p, append(many, fail()))
}

func TestRestorationFails(t *testing.T) {
	for _, r := range brokenRestorations() {
		checkFails(t, impl.FailFibers, r, []int{})
		checkFails(t, impl.RepairFibers, r, []int{})
		checkFails(t, impl.WaitingLights, r)
		checkFails(t, impl.RestoreLight, r, 1)
		checkFails(t, impl.RestoreAll, r)
		checkFails(t, impl.RevertLights, r)
	}
}
