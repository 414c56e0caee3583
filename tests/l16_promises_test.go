package tests

import (
	"testing"

	"loop.example/g00897/impl"
)

// The tests of this file would fail if promise 16, or promise 29 for a function of chapter 16, were
// broken.

// TestPromise16WeightsAddUpToTheWhole adds the weights of all failures.
func TestPromise16WeightsAddUpToTheWhole(t *testing.T) {
	next := numbers(161)
	for _, n := range append(sampleNetworks(), manyGroups()) {
		o := randomOutage(n, next)
		whole, sum := 1, 0
		for range o.Down {
			whole *= o.Unit
		}
		for number := range 1 << len(o.Down) {
			failed := []int{}
			for g := range o.Down {
				if number>>g&1 == 1 {
					failed = append(failed, g)
				}
			}
			weight, ok := impl.StateWeight(n, o, failed)
			if !ok || weight < 0 || weight > whole {
				t.Errorf("StateWeight(%v, %v, %v) = %d, %v", n, o, failed, weight, ok)
			}
			sum += weight
		}
		if sum != whole {
			t.Errorf("the weights for %v and %v have the sum %d, not %d", n, o, sum, whole)
		}
		if yes, ok := impl.MeetsTarget(n, o, sum, 1, 1); !yes || !ok {
			t.Errorf("%d is not the whole for %v and %v", sum, n, o)
		}
	}
}

// TestPromise16ConnectionsAreAsAvailableAsTheirRoutes compares every connection with all of its
// routes, and with pairs of them.
func TestPromise16ConnectionsAreAsAvailableAsTheirRoutes(t *testing.T) {
	next := numbers(162)
	better := 0
	for _, n := range append(sampleNetworks(), randomNetworks(40, 5)...) {
		if groupCount(n) > 9 {
			continue
		}
		o := randomOutage(n, next)
		for from := range n.Nodes {
			to := (from + 1 + next(len(n.Nodes)-1)) % len(n.Nodes)
			available, ok := impl.ConnectionAvailability(n, o, from, to)
			all, _ := impl.NetworkAvailability(n, o)
			if !ok || all > available {
				t.Errorf("%v with %v has the availability %d from %d to %d, but %d as a whole", n, o, available, from, to, all)
			}
			routes, _ := impl.AllRoutes(n, from, to)
			greatest := 0
			for _, r := range routes {
				single, _ := impl.RouteAvailability(n, o, r)
				other := routes[next(len(routes))]
				second, _ := impl.RouteAvailability(n, o, other)
				both, ok := impl.PairAvailability(n, o, r, other)
				if !ok || both < single || both < second || available < both || both > single+second {
					t.Errorf("%v with %v: %d and %d for %v and %v, %d for both, %d for the connection", n, o, single, second, r, other, both, available)
				}
				greatest = max(greatest, single)
			}
			if available > greatest {
				better++
			}
			checkCutWeight(t, n, o, from, to, available)
		}
	}
	if better < 20 {
		t.Errorf("only %d connections are more available than each of their routes", better)
	}
}

// checkCutWeight checks that the groups of the likeliest cut separate two nodes, and that their
// weight is at most that of all failures that do.
func checkCutWeight(t *testing.T, n impl.Network, o impl.Outage, from int, to int, available int) {
	t.Helper()
	failed, weight, ok := impl.LikeliestCut(n, o, from, to)
	stated, valid := impl.StateWeight(n, o, failed)
	whole := 1
	for range o.Down {
		whole *= o.Unit
	}
	if !ok || !valid || stated != weight || weight > whole-available || connects(n, state{gone: goneWith(n, failed)}, from, to) {
		t.Errorf("LikeliestCut(%v, %v, %d, %d) = %v, %d, %v", n, o, from, to, failed, weight, ok)
	}
}

func availabilityCandidates() candidates {
	c := candidates{}
	for _, n := range append(sampleNetworks(), brokenNetworks()[:20]...) {
		if len(n.Fibers) < 12 {
			c.add(n)
		}
	}
	c.add(square(), square(), square())
	for _, o := range append(badOutages(), outage(10, 1, 2, 3), outage(2, 0, 2, 1), outage(20, 0, 0, 0), outage(2), outage(7, 3), outage(7, 1, 1), outage(3, 1, 2, 0, 3, 1)) {
		c.add(o)
	}
	c.add(route(0, 0), route(0, 0, 2), route(0, 1), route(1, 0), impl.Route{}, route(3, 13), route(minInt, maxInt))
	c.add([]int(nil), []int{}, []int{0}, []int{1, 2}, []int{0, 1, 2}, []int{2, 1}, []int{0, 0}, []int{-1}, []int{3}, []int{minInt, maxInt})
	c.add(minInt, -1, 0, 1, 2, 3, 500, 1000, 1001, maxInt)
	return c
}

func TestPromise29AvailabilityFunctions(t *testing.T) {
	c := availabilityCandidates()
	for _, f := range []any{impl.IsValidOutage, impl.StateWeight, impl.RouteAvailability, impl.PairAvailability, impl.ConnectionAvailability,
		impl.NetworkAvailability, impl.GroupImportance, impl.LikeliestCut, impl.MeetsTarget} {
		sweep(t, f, c, 6000, startsWithBrokenNetwork)
	}
}
