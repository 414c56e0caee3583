package tests

import (
	"slices"
	"testing"

	"loop.example/g00897/impl"
)

// The tests of this file would fail if promise 17, or promise 29 for a function of chapter 17, were
// broken.

// TestPromise17FibersOnOrAcrossRingsAreNoBridges compares the fibers that no ring protects with the
// bridges, also if there are many rings: then every fiber of a ring is known to be no bridge.
func TestPromise17FibersOnOrAcrossRingsAreNoBridges(t *testing.T) {
	bridges, others := 0, 0
	for _, n := range append(ringNetworks(), randomNetworks(80, 8)...) {
		all, ok := impl.AllRings(n)
		if !ok {
			continue
		}
		expected, _ := impl.Bridges(n)
		check(t, impl.UnringedFibers, in(n), out(expected, true))
		bridges += len(expected)
		protected := map[int]bool{}
		for _, ring := range all {
			own, across, _ := impl.ProtectedFibers(n, ring)
			for _, fiber := range append(own, across...) {
				protected[fiber] = true
			}
		}
		for fiber := range n.Fibers {
			if protected[fiber] == slices.Contains(expected, fiber) {
				t.Errorf("the fiber %d of %v is protected: %v, but the bridges are %v", fiber, n, protected[fiber], expected)
			}
		}
		others += len(protected)
		checkCover(t, n, protected)
	}
	if bridges < 50 || others < 200 {
		t.Errorf("only %d bridges and %d other fibers", bridges, others)
	}
}

// checkCover checks that the rings of CoverRings protect as much as all rings together.
func checkCover(t *testing.T, n impl.Network, protected map[int]bool) {
	t.Helper()
	cover, ok := impl.CoverRings(n)
	covered := map[int]bool{}
	for _, ring := range cover {
		own, across, _ := impl.ProtectedFibers(n, ring)
		before := len(covered)
		for _, fiber := range append(own, across...) {
			covered[fiber] = true
		}
		if len(covered) == before || !impl.IsRing(n, ring) {
			t.Errorf("the ring %v of %v is not needed in %v", ring, n, cover)
		}
	}
	if !ok || len(covered) != len(protected) {
		t.Errorf("%v protect %d fibers of %v, not %d", cover, len(covered), n, len(protected))
	}
}

// TestPromise17SwitchedRoutesAvoidTheFiberThatFailed follows the switched routes of every fiber: they
// lead from one end of it to the other one along the ring, without the fiber, and do not share any.
func TestPromise17SwitchedRoutesAvoidTheFiberThatFailed(t *testing.T) {
	single, double := 0, 0
	for _, n := range ringNetworks() {
		all, _ := impl.AllRings(n)
		for _, ring := range all {
			for fiber, f := range n.Fibers {
				routes, ok := impl.SwitchedRoutes(n, ring, fiber)
				var used []int
				for _, r := range routes {
					nodes, valid := impl.RouteNodes(n, r)
					if !valid || nodes[0] != f.A || nodes[len(nodes)-1] != f.B || slices.Contains(r.Fibers, fiber) || have(used, r.Fibers) {
						t.Errorf("SwitchedRoutes(%v, %v, %d) = %v", n, ring, fiber, routes)
					}
					used = append(used, r.Fibers...)
				}
				if slices.ContainsFunc(used, func(i int) bool { return !slices.Contains(ring, i) }) {
					t.Errorf("the routes %v leave the ring %v", routes, ring)
				}
				switch {
				case ok && slices.Contains(ring, fiber):
					single++
					if len(routes) != 1 || len(used) != len(ring)-1 {
						t.Errorf("the fiber %d of the ring %v has the routes %v", fiber, ring, routes)
					}
				case ok:
					double++
					if len(routes) != 2 || len(used) != len(ring) {
						t.Errorf("the fiber %d across the ring %v has the routes %v", fiber, ring, routes)
					}
				}
			}
		}
	}
	if single < 500 || double < 200 {
		t.Errorf("only %d fibers are on a ring and %d across", single, double)
	}
}

func TestPromise29RingFunctions(t *testing.T) {
	c := networkCandidates()
	for _, n := range []impl.Network{kite(), hub(), bundles(2, 4, 5, 3), bundles(14, 0, 0, 0), strands(0, 1)} {
		c.add(n)
	}
	c.add([]int{0, 1}, []int{0, 3, 1}, []int{0, 3, 4, 2}, []int{0, 2, 3, 1}, []int{1, 0}, []int{3, 9, 1, 2, 0}, make([]int, 14), []int{7}, []int{0, 1000, 1000, 0}, 2, 4)
	for _, f := range []any{impl.IsRing, impl.RingNodes, impl.AllRings, impl.ProtectedFibers, impl.SwitchedRoutes, impl.RingCapacity,
		impl.RingEfficiency, impl.CoverRings, impl.UnringedFibers} {
		sweep(t, f, c, 4000, startsWithBrokenNetwork)
	}
	// Most rings of the sweep do not belong to its networks; these do.
	for _, n := range ringNetworks() {
		all, _ := impl.AllRings(n)
		for i, ring := range all {
			call(t, impl.RingNodes, n, ring)
			call(t, impl.ProtectedFibers, n, ring)
			call(t, impl.SwitchedRoutes, n, ring, i%(len(n.Fibers)+2)-1)
			call(t, impl.RingCapacity, n, ring, upTo(len(n.Fibers)))
			call(t, impl.RingEfficiency, n, ring)
		}
	}
}
