package tests

import (
	"slices"
	"testing"

	"loop.example/g00897/impl"
)

// The tests of this file would fail if promise 15, or promise 29 for a function of chapter 15, were
// broken.

// checkRestored checks that a restoration is valid, that no slot is shared, and that no light uses a
// failed fiber.
func checkRestored(t *testing.T, r impl.Restoration) {
	t.Helper()
	if !impl.IsValidRestoration(r) {
		t.Errorf("%v is not valid", r)
	}
	checkSlots(t, r.Plan)
	for _, x := range r.Plan.Lights {
		if have(x.Route.Fibers, r.Down) {
			t.Errorf("the light %v uses a fiber of %v", x, r.Down)
		}
	}
}

// checkStuck checks that a waiting light has no place at all: not its own one, and no block on any
// route.
func checkStuck(t *testing.T, r impl.Restoration, id int) {
	t.Helper()
	home, _ := lightOf(r.Home, id)
	nodes := expectedNodes(r.Plan.Network, home.Route)
	for _, way := range append(expectedAll(r.Plan.Network, nodes[0], nodes[len(nodes)-1]), home.Route) {
		for first := range impl.MaxSlots - home.Block.Count + 1 {
			if isFree(r, light(id, way, first, home.Block.Count)) {
				t.Errorf("light %d of %v waits, but could be at slot %d of %v", id, r, first, way)
			}
		}
	}
}

// TestPromise15RestoredLightsNeverCollide fails and repairs fibers, and restores and reverts lights,
// in a random order.
func TestPromise15RestoredLightsNeverCollide(t *testing.T) {
	next := numbers(153)
	restored, waiting := 0, 0
	for _, p := range append(allPlans(), plan(kite(), kiteLights()...)) {
		r, ok := impl.StartRestoration(p)
		for step := 0; ok && step < 12; step++ {
			fibers := randomSet(len(p.Network.Fibers), next)
			switch next(4) {
			case 0, 1:
				r, _, ok = impl.FailFibers(r, fibers)
			case 2:
				r, ok = impl.RepairFibers(r, fibers)
			default:
				r, _, ok = impl.RevertLights(r)
			}
			checkRestored(t, r)
			ids, _ := impl.WaitingLights(r)
			if len(ids) > 0 && next(2) == 0 {
				r = restoreOne(t, r, ids[next(len(ids))])
			}
			if next(2) == 0 {
				all, found, _ := impl.RestoreAll(r)
				left, _ := impl.WaitingLights(all)
				for _, id := range left {
					checkStuck(t, all, id)
				}
				checkRestored(t, all)
				r, restored, waiting = all, restored+len(found), waiting+len(left)
			}
		}
		if !ok {
			t.Errorf("a step for %v fails", p)
		}
	}
	if restored < 50 || waiting < 50 {
		t.Errorf("only %d lights are restored, and %d wait", restored, waiting)
	}
}

// restoreOne restores a waiting light, and checks that nothing else changes.
func restoreOne(t *testing.T, r impl.Restoration, id int) impl.Restoration {
	t.Helper()
	one, done, ok := impl.RestoreLight(r, id)
	if !ok {
		t.Fatalf("light %d of %v is not restored", id, r)
	}
	checkRestored(t, one)
	checkKept(t, r.Plan, one.Plan)
	if !done {
		checkStuck(t, r, id)
	}
	if count := len(one.Plan.Lights) - len(r.Plan.Lights); done != (count == 1) {
		t.Errorf("%d lights are restored in %v: %v", count, r, done)
	}
	return one
}

// TestPromise15EventsEndWhereTheyBegan fails fibers and then repairs all of them: most plans are as
// they were, and in the others the lights that wait or are elsewhere are in the way of each other.
func TestPromise15EventsEndWhereTheyBegan(t *testing.T) {
	next := numbers(154)
	home := 0
	for _, p := range allPlans() {
		all := upTo(len(p.Network.Fibers))
		events := []impl.FiberEvent{{Fail: true, Fibers: randomSet(len(all), next)}, {Fail: true, Fibers: randomSet(len(all), next)}}
		for range impl.MaxLights {
			events = append(events, impl.FiberEvent{Fibers: all})
		}
		counts, r, ok := impl.RunEvents(p, events)
		if !ok || len(counts) != len(events) || len(r.Down) != 0 {
			t.Fatalf("RunEvents(%v, %v) = %v, %v", p, events, counts, r)
		}
		checkRestored(t, r)
		if ids, _ := impl.WaitingLights(r); counts[len(counts)-1] != len(ids) {
			t.Errorf("%v wait, but the count is %v", ids, counts)
		}
		if slices.EqualFunc(r.Plan.Lights, p.Lights, func(a impl.Light, b impl.Light) bool {
			return a.Id == b.Id && a.Block == b.Block && slices.Equal(a.Route.Fibers, b.Route.Fibers)
		}) {
			home++
		}
	}
	if home < 30 {
		t.Errorf("only %d plans are as they were", home)
	}
}

func restorationCandidates() candidates {
	c := candidates{}
	for i, r := range sampleRestorations() {
		if i%4 == 0 {
			c.add(r)
		}
	}
	for i, r := range brokenRestorations() {
		if i%5 == 0 {
			c.add(r)
		}
	}
	for _, p := range append(samplePlans(), brokenPlans()[:20]...) {
		c.add(p)
	}
	c.add([]int(nil), []int{}, []int{0}, []int{1, 2}, []int{0, 1, 2, 3}, []int{2, 1}, []int{0, 0}, []int{-1}, []int{14}, []int{minInt, maxInt})
	c.add(minInt, 0, 1, 5, 9, 30, 999, maxInt)
	events := []impl.FiberEvent{{Fail: true, Fibers: []int{0}}, {Fibers: []int{0, 1}}, {Fail: true}, {Fail: true, Fibers: []int{9}}}
	c.add([]impl.FiberEvent(nil), events[:1], events[:2], events[:3], events, make([]impl.FiberEvent, 21))
	return c
}

func TestPromise29RestorationFunctions(t *testing.T) {
	c := restorationCandidates()
	for _, f := range []any{impl.IsValidRestoration, impl.StartRestoration, impl.FailFibers, impl.RepairFibers, impl.WaitingLights,
		impl.RestoreLight, impl.RestoreAll, impl.RevertLights, impl.RunEvents} {
		sweep(t, f, c, 1500, func(args []any) bool {
			r, ok := args[0].(impl.Restoration)
			return ok && !impl.IsValidRestoration(r) || startsWithBrokenPlan(args)
		})
	}
}
