package tests

import (
	"testing"

	"loop.example/g00897/impl"
)

// The tests of this file would fail if promise 9, or promise 29 for a function of chapter 9, were
// broken.

// checkSlots checks that every slot of every fiber is occupied by at most one light.
func checkSlots(t *testing.T, p impl.Plan) {
	t.Helper()
	owners := map[[2]int]int{}
	for _, x := range p.Lights {
		for _, s := range slotsOf(x) {
			if owner, taken := owners[s]; taken {
				t.Errorf("the lights %d and %d of %v share slot %d of fiber %d", owner, x.Id, p, s[1], s[0])
			}
			owners[s] = x.Id
		}
	}
}

// TestPromise9NoSlotIsSharedAfterChanges changes plans at random, and compares whether a change is
// made with whether its result has a slot that two lights share.
func TestPromise9NoSlotIsSharedAfterChanges(t *testing.T) {
	next := numbers(99)
	for _, n := range []impl.Network{square(), parallels(), trap(), largest()} {
		p, routes := plan(n), expectedRoutes(n)
		added, refused, moved := 0, 0, 0
		for range 1500 {
			first := next(impl.MaxSlots)
			x := light(1+next(20), routes[next(len(routes))], first, 1+next(min(5, impl.MaxSlots-first)))
			_, exists := impl.LightNumber(p, x.Id)
			free := len(expectedColliding(p, x)) == 0
			q, ok := impl.MoveLight(p, x.Id, x.Route, x.Block)
			want := exists && free
			if !exists {
				q, ok = impl.AddLight(p, x)
				want = free && len(p.Lights) < impl.MaxLights
				if ok {
					added++
				} else {
					refused++
				}
			} else if ok {
				moved++
			}
			if ok != want {
				t.Errorf("%v is put into %v: %v", x, p, ok)
			}
			if ok {
				checkSlots(t, q)
				p = q
			}
			if gone, ok := impl.RemoveLight(p, 1+next(40)); ok {
				checkSlots(t, gone)
				p = gone
			}
		}
		if added < 20 || refused < 20 || moved < 20 {
			t.Errorf("only %d lights are added, %d refused and %d moved", added, refused, moved)
		}
	}
}

// TestPromise9ValidPlansShareNoSlot puts two lights into a plan in all ways of some blocks and
// routes.
func TestPromise9ValidPlansShareNoSlot(t *testing.T) {
	routes := expectedRoutes(square())
	for _, a := range routes {
		for _, b := range routes {
			for shift := -3; shift <= 3; shift++ {
				p := plan(square(), light(1, a, 5, 2), light(2, b, 5+shift, 3))
				valid := impl.IsValidPlan(p)
				if valid {
					checkSlots(t, p)
				}
				if valid != (len(expectedColliding(p, p.Lights[0])) == 0) {
					t.Errorf("%v is valid: %v", p, valid)
				}
			}
		}
	}
}

func planCandidates() candidates {
	c := routeCandidates()
	for _, p := range append(samplePlans(), brokenPlans()...) {
		c.add(p)
	}
	for _, x := range badLights() {
		c.add(x)
	}
	c.add(light(9, route(0, 0), 20, 4), light(1, route(0, 0, 2), 1, 2), light(2, route(1, 2), 9, 1), light(999, route(0, 1), 0, 24), impl.Light{})
	for _, b := range badBlocks() {
		c.add(b)
	}
	c.add(impl.Block{First: 3, Count: 4}, impl.Block{First: 0, Count: 24}, impl.Block{First: 23, Count: 1})
	c.add(2, 5, 999, 1000)
	return c
}

// startsWithBrokenPlan reports whether the first argument is a plan that is not valid.
func startsWithBrokenPlan(args []any) bool {
	p, ok := args[0].(impl.Plan)
	return ok && !impl.IsValidPlan(p)
}

func TestPromise29LightFunctions(t *testing.T) {
	c := planCandidates()
	for _, f := range []any{impl.IsValidPlan, impl.LightNumber, impl.FiberMasks, impl.RouteMask, impl.CollidingLights, impl.AddLight,
		impl.RemoveLight, impl.MoveLight, impl.PlanUse} {
		sweep(t, f, c, 4000, startsWithBrokenPlan)
	}
}
