package tests

import (
	"slices"
	"testing"

	"loop.example/g00897/impl"
)

// The tests of this file would fail if promise 19, or promise 29 for a function of chapter 19, were
// broken.

// TestPromise19NoSignalTravelsFartherThanItsReach cuts routes at their regenerators: no piece is
// longer than the reach, and every piece with the next fiber would be.
func TestPromise19NoSignalTravelsFartherThanItsReach(t *testing.T) {
	next := numbers(194)
	regenerated, refused := 0, 0
	for _, n := range append(sampleNetworks(), kite(), chainOf(30, 40, 50, 20, 60, 10, 30)) {
		routes := expectedRoutes(n)
		for i := 0; i < len(routes); i += 1 + len(routes)/60 {
			r := routes[i]
			length, _ := impl.RouteLength(n, r)
			reach := 1 + next(min(length, impl.MaxReach))
			longest := 0
			for _, fiber := range r.Fibers {
				longest = max(longest, n.Fibers[fiber].Length)
			}
			used, ok := impl.RegeneratorsFor(n, r, reach)
			if ok != (longest <= reach) {
				t.Errorf("RegeneratorsFor(%v, %v, %d) = %v, %v", n, r, reach, used, ok)
			}
			if !ok {
				refused++
				continue
			}
			regenerated += len(used)
			pieces, ok := impl.SegmentLengths(n, r, used)
			sum := 0
			for _, piece := range pieces {
				sum += piece
			}
			if !ok || len(pieces) != len(used)+1 || slices.Max(pieces) > reach || sum != length {
				t.Errorf("RegeneratorsFor(%v, %v, %d) = %v, with the pieces %v", n, r, reach, used, pieces)
			}
			checkNeeded(t, n, r, reach, used)
		}
	}
	if regenerated < 200 || refused < 100 {
		t.Errorf("only %d regenerators are used, and %d routes are refused", regenerated, refused)
	}
}

// checkNeeded checks that fewer regenerators than those of a list are never enough.
func checkNeeded(t *testing.T, n impl.Network, r impl.Route, reach int, used []int) {
	t.Helper()
	nodes, _ := impl.RouteNodes(n, r)
	inner := nodes[1 : len(nodes)-1]
	for _, list := range listsBelow(len(inner)) {
		if len(list) >= len(used) {
			return
		}
		var at []int
		for _, i := range list {
			at = append(at, inner[i])
		}
		if pieces, ok := impl.SegmentLengths(n, r, at); !ok || slices.Max(pieces) <= reach {
			t.Errorf("the regenerators %v are enough for %v of %v and %d, not only %v", at, r, n, reach, used)
		}
	}
}

// TestPromise19TheFewestSitesConnectAllNodes checks the sites, and that no smaller set is enough.
func TestPromise19TheFewestSitesConnectAllNodes(t *testing.T) {
	next := numbers(195)
	needed := 0
	for _, n := range append(append(sampleNetworks(), kite(), hub(), chainOf(9, 8, 7, 6, 5, 6, 7)), randomNetworks(60, 7)...) {
		for range 8 {
			reach := 1 + next(30)
			sites, found, ok := impl.FewestSites(n, reach)
			if !ok {
				t.Fatalf("FewestSites(%v, %d) fails", n, reach)
			}
			if !found {
				if expectedSites(n, upTo(len(n.Nodes)), reach) {
					t.Errorf("all nodes together connect %v with the reach %d", n, reach)
				}
				continue
			}
			needed += len(sites)
			if !expectedSites(n, sites, reach) {
				t.Errorf("the sites %v do not connect %v with the reach %d", sites, n, reach)
			}
			for _, list := range listsBelow(len(n.Nodes)) {
				if len(list) < len(sites) && expectedSites(n, list, reach) {
					t.Errorf("the sites %v connect %v with the reach %d, not only %v", list, n, reach, sites)
				}
			}
		}
	}
	if needed < 50 {
		t.Errorf("only %d sites are needed", needed)
	}
}

func equipmentCandidates() candidates {
	c := planCandidates()
	for i, list := range badBills() {
		if i%3 == 0 {
			c.add(list)
		}
	}
	c.add([]impl.Item(nil), bill(1, 0, 1), bill(1, 0, 1000, 4, 7, 3), bill(2, 3, 4, 4, 7, 5), fullBill(1), fullBill(1000))
	c.add([]int{10, 20, 5, 1}, []int{0, 0, 0, 100000}, []int{1, 2, 3, 4, 5}, []int{-1, 0, 0, 0}, []int{1})
	c.add(1, 49, 50, 100, 300, 1000, 1001, 5000, 20000, 20001)
	return c
}

func TestPromise29EquipmentFunctions(t *testing.T) {
	c := equipmentCandidates()
	for _, f := range []any{impl.RegeneratorsFor, impl.SegmentLengths, impl.SitesConnect, impl.FewestSites, impl.BillOf, impl.MergeBills,
		impl.MissingItems, impl.CostOf} {
		sweep(t, f, c, 4000, func(args []any) bool { return startsWithBrokenNetwork(args) || startsWithBrokenPlan(args) })
	}
}
