package tests

import (
	"reflect"
	"slices"
	"testing"

	"loop.example/g00897/impl"
)

// The tests of this file would fail if promise 20, or promise 29 for a function of chapter 20, were
// broken.

// samePlan compares plans in all fields.
func samePlan(p impl.Plan, q impl.Plan) bool { return same(reflect.ValueOf(p), reflect.ValueOf(q)) }

// TestPromise20AChangeEndsDoneOrUndone carries out changes step by step: every plan on the way is
// valid, and the last one is that after all actions or that before all of them.
func TestPromise20AChangeEndsDoneOrUndone(t *testing.T) {
	next := numbers(203)
	done, undone, longest := 0, 0, 0
	for _, p := range append(allPlans(), randomPlans(80)...) {
		for range 3 {
			list := randomActions(p, impl.MaxActions-next(3), next)
			c, ok := impl.StartChange(p, list)
			if !ok {
				t.Fatalf("StartChange(%v, %v) fails", p, list)
			}
			state, steps := impl.ChangeRunning, 0
			for state == impl.ChangeRunning && steps < 2*impl.MaxActions {
				c, state, ok = impl.StepChange(c)
				steps++
				if !ok || !impl.IsValidChange(c) || !impl.IsValidPlan(c.Plan) {
					t.Fatalf("step %d of %v and %v leads to %v", steps, p, list, c)
				}
				checkSlots(t, c.Plan)
			}
			longest = max(longest, steps)
			q, count := expectedApplied(p, list)
			switch {
			case state == impl.ChangeDone && count == len(list) && samePlan(c.Plan, q):
				done++
			case state == impl.ChangeUndone && count < len(list) && samePlan(c.Plan, p):
				undone++
			default:
				t.Errorf("%v and %v end after %d steps in the state %d with %v", p, list, steps, state, c)
			}
		}
	}
	if done < 50 || undone < 50 || longest < 2*impl.MaxActions-2 {
		t.Errorf("%d changes are done and %d undone, after at most %d steps", done, undone, longest)
	}
}

// TestPromise20AChangeIsUndoneFromEveryPlace turns changes back after each number of steps: they
// all lead to the plan that they started from.
func TestPromise20AChangeIsUndoneFromEveryPlace(t *testing.T) {
	next := numbers(204)
	for _, p := range allPlans() {
		c, _ := impl.StartChange(p, randomActions(p, impl.MaxActions, next))
		for range impl.MaxActions {
			back, state, ok := impl.RunChange(changeBack(c.Plan, c.Undo...), 20)
			if !ok || state != impl.ChangeUndone || !samePlan(back.Plan, p) {
				t.Errorf("%v ends with %v instead of %v", c, back, p)
			}
			var running int
			if c, running, _ = impl.StepChange(c); running != impl.ChangeRunning {
				break
			}
		}
	}
}

// TestPromise20SafeOrdersLeadToThePlan applies safe orders one action after the other.
func TestPromise20SafeOrdersLeadToThePlan(t *testing.T) {
	next := numbers(205)
	moved := 0
	for _, p := range append(allPlans(), randomPlans(80)...) {
		q, _ := expectedApplied(p, randomActions(p, 1+next(impl.MaxActions), next))
		order, ok := impl.SafeOrder(p, q)
		if _, possible := expectedSafe(p, expectedDifference(p, q)); ok != possible {
			t.Errorf("there is an order from %v to %v: %v", p, q, ok)
		}
		if !ok {
			continue
		}
		at := p
		for _, a := range order {
			if at, ok = impl.ApplyAction(at, a); !ok {
				t.Fatalf("%v cannot be applied in the order %v from %v to %v", a, order, p, q)
			}
			checkSlots(t, at)
			moved++
		}
		if !samePlan(at, q) {
			t.Errorf("%v leads from %v to %v, not %v", order, p, at, q)
		}
		list, _ := impl.PlanDifference(p, q)
		for _, a := range list {
			if !slices.ContainsFunc(order, func(b impl.Action) bool { return b.Kind == a.Kind && equalLights(a.Light, b.Light) }) {
				t.Errorf("%v is missing in %v", a, order)
			}
		}
	}
	if moved < 200 {
		t.Errorf("only %d actions are applied", moved)
	}
}

func provisioningCandidates() candidates {
	c := candidates{}
	for i, p := range append(samplePlans(), brokenPlans()...) {
		if i < len(samplePlans()) || i%4 == 0 {
			c.add(p)
		}
	}
	c.add(twoLights())
	lists := [][]impl.Action{nil, badActions()[:8], badActions()[:9]}
	for i, a := range append(badActions(), add(light(4, route(0, 0), 4, 2)), remove(light(3, route(0, 0), 0, 2)), move(light(5, route(2, 2), 0, 2)), move(light(1, route(0, 0), 9, 1))) {
		if i%3 == 0 {
			c.add(a)
			lists = append(lists, actions(a), actions(add(light(4, route(0, 0), 4, 2)), a))
		}
	}
	for _, list := range lists {
		c.add(list)
		c.add(change(twoLights(), list), changeBack(twoLights(), list...))
	}
	for i, x := range brokenChanges() {
		if i%3 == 0 {
			c.add(x)
		}
	}
	c.add(minInt, -1, 0, 1, 8, 20, 21, maxInt)
	return c
}

func TestPromise29ProvisioningFunctions(t *testing.T) {
	c := provisioningCandidates()
	for _, f := range []any{impl.ApplyAction, impl.InverseAction, impl.ApplyActions, impl.StartChange, impl.IsValidChange, impl.StepChange, impl.RunChange,
		impl.PlanDifference, impl.SafeOrder, impl.IsHitless} {
		sweep(t, f, c, 2000, func(args []any) bool {
			x, ok := args[0].(impl.Change)
			return ok && !impl.IsValidChange(x) || startsWithBrokenPlan(args)
		})
	}
}
