package tests

import (
	"slices"
	"testing"

	"loop.example/g00897/impl"
)

// The tests of this file would fail if promise 11, or promise 29 for a function of chapter 11, were
// broken.

// checkKept checks that a plan has all lights of an earlier one as they were, and that no slot is
// shared.
func checkKept(t *testing.T, before impl.Plan, after impl.Plan) {
	t.Helper()
	if !impl.IsValidPlan(after) {
		t.Errorf("%v is not valid", after)
	}
	checkSlots(t, after)
	for _, x := range before.Lights {
		i, ok := impl.LightNumber(after, x.Id)
		if !ok || after.Lights[i].Block != x.Block || after.Lights[i].Route.Start != x.Route.Start || !slices.Equal(after.Lights[i].Route.Fibers, x.Route.Fibers) {
			t.Errorf("the light %v of %v is not kept in %v", x, before, after)
		}
	}
}

// slotsUsed counts the slots of all lights on all fibers.
func slotsUsed(p impl.Plan) int {
	count := 0
	for _, x := range p.Lights {
		count += len(slotsOf(x))
	}
	return count
}

// TestPromise11ServingKeepsLightsAndUsesTheBound serves random demands, and compares the slots that
// are used in addition with the bound for the demands that are not blocked.
func TestPromise11ServingKeepsLightsAndUsesTheBound(t *testing.T) {
	next := numbers(111)
	served, above := 0, 0
	for _, p := range append(samplePlans(), randomPlans(60)...) {
		for range 4 {
			list := sampleFormats()[next(8)]
			demands := append(randomDemands(p.Network, next), randomDemands(p.Network, next)...)
			for i, serve := range []func(impl.Plan, []impl.Format, []impl.Demand, int) (impl.Served, bool){impl.ServeAll, impl.ServeInOrder} {
				s, ok := serve(p, list, demands, 1+next(3))
				if !ok {
					if i == 0 {
						t.Errorf("%v are not served", demands)
					}
					continue
				}
				checkKept(t, p, s.Plan)
				var carried []impl.Demand
				for k, id := range s.Ids {
					if id > 0 {
						carried = append(carried, demands[k])
						checkCarries(t, s.Plan, list, id, demands[k])
					}
				}
				if len(carried)+s.Blocked != len(demands) || len(s.Plan.Lights) != len(p.Lights)+len(carried) {
					t.Errorf("%v are served as %+v", demands, s)
				}
				bound, ok := impl.CostBound(p.Network, list, carried)
				used := slotsUsed(s.Plan) - slotsUsed(p)
				if !ok || used < bound {
					t.Errorf("%v are served with %d slots, less than the bound %d", carried, used, bound)
				}
				served += len(carried)
				if used > bound {
					above++
				}
			}
		}
	}
	if served < 200 || above < 5 {
		t.Errorf("only %d demands are served, %d times above the bound", served, above)
	}
}

// checkCarries checks that a light carries a demand.
func checkCarries(t *testing.T, p impl.Plan, list []impl.Format, id int, d impl.Demand) {
	t.Helper()
	i, ok := impl.LightNumber(p, id)
	if !ok {
		t.Fatalf("%v has no light %d", p, id)
	}
	x := p.Lights[i]
	nodes := expectedNodes(p.Network, x.Route)
	slots := expectedSlots(list, expectedLength(p.Network, x.Route), d.Rate)
	if nodes[0] != d.From || nodes[len(nodes)-1] != d.To || slots == 0 || x.Block.Count != slots {
		t.Errorf("the light %v does not carry %v", x, d)
	}
}

// TestPromise11ReleasingUndoesServing releases what has been served.
func TestPromise11ReleasingUndoesServing(t *testing.T) {
	next := numbers(112)
	for _, p := range append(samplePlans(), randomPlans(40)...) {
		s, ok := impl.ServeAll(p, sampleFormats()[next(8)], randomDemands(p.Network, next), 1+next(3))
		if !ok {
			t.Errorf("nothing is served in %v", p)
		}
		check(t, impl.ReleaseAll, in(s), out(p, true))
	}
}

func assignmentCandidates() candidates {
	c := planCandidates()
	addDemands(c)
	for i, p := range append(samplePlans(), brokenPlans()...) {
		c.add(impl.Served{Plan: p, Ids: []int{i % 4, 30, 0}}, impl.Served{Plan: p, Ids: []int{0, 1}, Blocked: 1})
	}
	c.add(impl.Served{}, impl.FitFirst, impl.FitLast, impl.FitBest)
	return c
}

func TestPromise29AssignmentFunctions(t *testing.T) {
	c := assignmentCandidates()
	for _, f := range []any{impl.ServeDemand, impl.ServeAll, impl.ServeInOrder, impl.BestRule, impl.RouteChoices, impl.ReleaseAll} {
		sweep(t, f, c, 4000, func(args []any) bool {
			s, ok := args[0].(impl.Served)
			return ok && !impl.IsValidPlan(s.Plan) || startsWithBrokenPlan(args)
		})
	}
}
