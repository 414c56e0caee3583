package tests

import (
	"slices"
	"testing"

	"loop.example/g00897/impl"
)

// The tests of this file compare every function of chapter 17 with what the document states:
// ordinary inputs, the edge cases that the chapter names, and invalid inputs.

// bundles connects a with b, a with c, b with c, and c with d, each pair by so many fibers.
func bundles(ab int, ac int, bc int, cd int) impl.Network {
	n := network("a b c d")
	for i, count := range []int{ab, ac, bc, cd} {
		for range count {
			n.Fibers = append(n.Fibers, impl.Fiber{A: []int{0, 0, 1, 2}[i], B: []int{1, 2, 2, 3}[i], Length: 5})
		}
	}
	return n
}

// expectedRings closes all routes from their smallest node by a fiber, and takes each ring in the
// direction for which the list is smaller.
func expectedRings(n impl.Network) [][]int {
	rings := [][]int{}
	for _, r := range expectedRoutes(n) {
		nodes := expectedNodes(n, r)
		last := nodes[len(nodes)-1]
		for i, f := range n.Fibers {
			if r.Start != slices.Min(nodes) || slices.Contains(r.Fibers, i) || f.A != r.Start || f.B != last {
				continue
			}
			ring := append(slices.Clone(r.Fibers), i)
			opposite := slices.Clone(ring)
			slices.Reverse(opposite)
			if slices.Compare(ring, opposite) < 0 {
				rings = append(rings, ring)
			}
		}
	}
	slices.SortFunc(rings, func(a []int, b []int) int {
		if len(a) != len(b) {
			return len(a) - len(b)
		}
		return slices.Compare(a, b)
	})
	return rings
}

// expectedProtected returns the fibers of a ring, and the others between two of its nodes.
func expectedProtected(n impl.Network, ring []int) ([]int, []int) {
	nodes := map[int]bool{}
	for _, fiber := range ring {
		nodes[n.Fibers[fiber].A], nodes[n.Fibers[fiber].B] = true, true
	}
	own, across := []int{}, []int{}
	for i, f := range n.Fibers {
		if slices.Contains(ring, i) {
			own = append(own, i)
		} else if nodes[f.A] && nodes[f.B] {
			across = append(across, i)
		}
	}
	return own, across
}

// ringNetworks returns the samples with at most MaxRings rings, and more networks.
func ringNetworks() []impl.Network {
	list := append(sampleNetworks(), kite(), diamond(), hub(), trap(), pentagon(), bundles(2, 4, 5, 3), bundles(1, 1, 1, 0), bundles(3, 1, 0, 2))
	list = append(list, randomNetworks(50, 6)...)
	return slices.DeleteFunc(list, func(n impl.Network) bool { return len(expectedRings(n)) > impl.MaxRings })
}

func TestIsRingAndRingNodes(t *testing.T) {
	n := kite()
	check(t, impl.RingNodes, in(n, []int{0, 3, 4, 2}), out([]int{0, 1, 2, 3}, true))
	check(t, impl.RingNodes, in(n, []int{1, 4, 2}), out([]int{0, 2, 3}, true))
	check(t, impl.RingNodes, in(pentagon(), []int{0, 2, 3, 4, 1}), out([]int{0, 1, 2, 3, 4}, true))
	check(t, impl.RingNodes, in(parallels(), []int{3, 5}), out([]int{1, 2}, true))
	check(t, impl.RingNodes, in(strands(0, 0, 0), []int{0, 2}), out([]int{0, 1}, true))
	// Rings that are not in standard form: another direction, another beginning, or both.
	for _, ring := range [][]int{{2, 4, 3, 0}, {3, 4, 2, 0}, {4, 2, 0, 3}, {2, 0, 3, 4}, {0, 2, 4, 3}, {2, 4, 1}, {4, 2, 1}, {1, 2, 4}} {
		checkFails(t, impl.RingNodes, n, ring)
		check(t, impl.IsRing, in(n, ring), out(false))
	}
	// Lists that are no rings: too short, not closed, with repeated or unknown fibers, or a node twice.
	for _, ring := range [][]int{{}, {0}, {1}, {0, 3}, {0, 3, 4}, {0, 0}, {0, 1}, {0, 3, 1, 1}, {0, 3, 1, 0}, {0, 3, 5}, {0, 3, -1}, {-1, 0}, {5, 0, 3}, {0, maxInt}, {minInt, 0},
		{0, 3, 4, 2, 0}, {0, 3, 1, 2, 4, 1}, {0, 4, 3, 2}, {0, 3, 4, 2, 1}, {0, 3, 1, 0, 3, 1}, {0, 3, 1, 1, 4, 2}} {
		checkFails(t, impl.RingNodes, n, ring)
		check(t, impl.IsRing, in(n, ring), out(false))
	}
	for _, ring := range [][]int{{5, 3}, {3, 3}, {0, 1, 2}, {0, 3}, {3, 4, 5}, {0, 1, 3, 4}, {1, 0}} {
		check(t, impl.IsRing, in(parallels(), ring), out(false))
	}
	check(t, impl.IsRing, in(hub(), []int{0, 2, 6, 1}), out(true))
	check(t, impl.IsRing, in(hub(), []int{3, 5, 6, 4}), out(true))
	check(t, impl.IsRing, in(hub(), []int{3, 4, 6, 5}), out(false))
}

// TestIsRingOfAllLists tries all lists of up to five fibers, also unknown ones.
func TestIsRingOfAllLists(t *testing.T) {
	for _, n := range []impl.Network{kite(), strands(0, 1), bundles(1, 1, 2, 1)} {
		rings := expectedRings(n)
		found := 0
		lists := [][]int{{}}
		for k := 0; k < len(lists); k++ {
			want := slices.ContainsFunc(rings, func(ring []int) bool { return slices.Equal(ring, lists[k]) })
			if want {
				found++
			}
			if impl.IsRing(n, lists[k]) != want {
				t.Errorf("%v is a ring of %v: %v", lists[k], n, !want)
			}
			for fiber := -1; len(lists[k]) < 5 && fiber <= len(n.Fibers); fiber++ {
				lists = append(lists, append(slices.Clone(lists[k]), fiber))
			}
		}
		if found != len(rings) {
			t.Errorf("only %d of %v are found", found, rings)
		}
	}
}

func TestAllRings(t *testing.T) {
	check(t, impl.AllRings, in(kite()), out([][]int{{0, 3, 1}, {1, 4, 2}, {0, 3, 4, 2}}, true))
	check(t, impl.AllRings, in(square()), out([][]int{{0, 2, 3, 1}}, true))
	check(t, impl.AllRings, in(parallels()), out([][]int{{0, 1}, {0, 2}, {1, 2}, {3, 4}, {3, 5}, {4, 5}}, true))
	check(t, impl.AllRings, in(hub()), out([][]int{{0, 2, 6, 1}, {3, 5, 6, 4}, {0, 2, 5, 3, 4, 1}}, true))
	// Networks without a ring.
	for _, n := range []impl.Network{network("a b"), network("a b", [4]int{0, 1, 7}), network("a b c", [4]int{0, 1, 1}, [4]int{1, 2, 1}), strands(0)} {
		check(t, impl.AllRings, in(n), out([][]int{}, true))
		check(t, impl.CoverRings, in(n), out([][]int{}, true))
		check(t, impl.UnringedFibers, in(n), out(upTo(len(n.Fibers)), true))
	}
	for _, n := range sampleNetworks() {
		if rings := expectedRings(n); len(rings) > impl.MaxRings {
			checkFails(t, impl.AllRings, n)
		} else {
			check(t, impl.AllRings, in(n), out(rings, true))
		}
	}
}

// TestAllRingsAtTheLimit has networks with exactly MaxRings rings, one more, and the most.
func TestAllRingsAtTheLimit(t *testing.T) {
	most, more := bundles(2, 4, 5, 3), bundles(3, 3, 5, 0)
	if len(expectedRings(most)) != impl.MaxRings || len(expectedRings(more)) != impl.MaxRings+1 {
		t.Fatalf("%d and %d rings", len(expectedRings(most)), len(expectedRings(more)))
	}
	check(t, impl.AllRings, in(most), out(expectedRings(most), true))
	check(t, impl.UnringedFibers, in(most), out([]int{}, true))
	for _, n := range []impl.Network{more, bundles(14, 0, 0, 0), bundles(5, 5, 4, 0), bundles(4, 4, 4, 2)} {
		checkFails(t, impl.AllRings, n)
		checkFails(t, impl.CoverRings, n)
		checkFails(t, impl.UnringedFibers, n)
		// A ring itself does not need the others.
		check(t, impl.IsRing, in(n, []int{0, 1}), out(true))
	}
}

func TestProtectedFibersAndSwitchedRoutes(t *testing.T) {
	n := kite()
	ring := []int{0, 3, 4, 2}
	check(t, impl.ProtectedFibers, in(n, ring), out([]int{0, 2, 3, 4}, []int{1}, true))
	check(t, impl.ProtectedFibers, in(n, []int{0, 3, 1}), out([]int{0, 1, 3}, []int{}, true))
	check(t, impl.SwitchedRoutes, in(n, ring, 1), out([]impl.Route{route(0, 0, 3), route(0, 2, 4)}, true))
	check(t, impl.SwitchedRoutes, in(n, ring, 0), out([]impl.Route{route(0, 2, 4, 3)}, true))
	check(t, impl.SwitchedRoutes, in(n, ring, 3), out([]impl.Route{route(1, 0, 2, 4)}, true))
	check(t, impl.SwitchedRoutes, in(n, ring, 2), out([]impl.Route{route(0, 0, 3, 4)}, true))
	check(t, impl.SwitchedRoutes, in(n, []int{0, 3, 1}, 1), out([]impl.Route{route(0, 0, 3)}, true))
	// A ring of two parallel fibers, and a third fiber across.
	n = strands(0, 0, 0)
	check(t, impl.ProtectedFibers, in(n, []int{0, 1}), out([]int{0, 1}, []int{2}, true))
	check(t, impl.SwitchedRoutes, in(n, []int{0, 1}, 0), out([]impl.Route{route(0, 1)}, true))
	check(t, impl.SwitchedRoutes, in(n, []int{0, 1}, 1), out([]impl.Route{route(0, 0)}, true))
	check(t, impl.SwitchedRoutes, in(n, []int{1, 2}, 0), out([]impl.Route{route(0, 1), route(0, 2)}, true))
	// The longer way round may be the first one, by its length.
	n = network("a b c d", [4]int{0, 1, 100}, [4]int{0, 2, 9}, [4]int{0, 3, 10}, [4]int{1, 2, 10}, [4]int{1, 3, 1})
	check(t, impl.SwitchedRoutes, in(n, []int{1, 3, 4, 2}, 0), out([]impl.Route{route(0, 2, 4), route(0, 1, 3)}, true))
	// A straddling fiber that is parallel to a fiber of the ring.
	n = bundles(2, 1, 1, 1)
	check(t, impl.ProtectedFibers, in(n, []int{1, 3, 2}), out([]int{1, 2, 3}, []int{0}, true))
	check(t, impl.SwitchedRoutes, in(n, []int{1, 3, 2}, 0), out([]impl.Route{route(0, 1), route(0, 2, 3)}, true))
	// Fibers that are not protected or do not exist.
	for _, fiber := range []int{4, 5, -1, minInt, maxInt, 64} {
		checkFails(t, impl.SwitchedRoutes, n, []int{1, 3, 2}, fiber)
	}
	checkFails(t, impl.SwitchedRoutes, kite(), []int{0, 3, 1}, 2)
}

func TestRingCapacityAndEfficiency(t *testing.T) {
	n, ring := kite(), []int{0, 3, 4, 2}
	check(t, impl.RingCapacity, in(n, ring, []int{3, 9, 1, 2, 0}), out(5, true))
	check(t, impl.RingCapacity, in(n, ring, []int{3, 6, 1, 2, 0}), out(3, true))
	check(t, impl.RingCapacity, in(n, ring, []int{3, 7, 1, 2, 0}), out(4, true))
	check(t, impl.RingCapacity, in(n, ring, []int{0, 1, 0, 0, 0}), out(1, true))
	check(t, impl.RingCapacity, in(n, ring, []int{0, 0, 0, 0, 0}), out(0, true))
	check(t, impl.RingCapacity, in(n, ring, []int{0, 1000, 1, 2, 3}), out(500, true))
	check(t, impl.RingCapacity, in(n, ring, []int{0, 999, 1, 2, 1000}), out(1000, true))
	check(t, impl.RingCapacity, in(n, ring, []int{0, 999, 1, 2, 3}), out(500, true))
	check(t, impl.RingCapacity, in(n, []int{0, 3, 1}, []int{1, 2, 1000, 3, 1000}), out(3, true))
	for _, working := range [][]int{nil, {1, 2, 3, 4}, {1, 2, 3, 4, 5, 6}, {-1, 0, 0, 0, 0}, {0, 0, 0, 0, 1001}, {0, -1, 0, 0, 0}, {0, 1001, 0, 0, 0}, {minInt, 0, 0, 0, 0}, {0, maxInt, 0, 0, 0}} {
		checkFails(t, impl.RingCapacity, n, ring, working)
	}
	// The working units of fibers that are not protected have to be in range, too.
	checkFails(t, impl.RingCapacity, n, []int{0, 3, 1}, []int{1, 2, 1001, 3, 4})
	check(t, impl.RingEfficiency, in(n, ring), out(1500, true))
	check(t, impl.RingEfficiency, in(n, []int{0, 3, 1}), out(1000, true))
	check(t, impl.RingEfficiency, in(strands(0, 0, 0), []int{0, 1}), out(2000, true))
	check(t, impl.RingEfficiency, in(bundles(2, 1, 1, 0), []int{0, 3, 2}), out(1666, true))
	check(t, impl.RingEfficiency, in(bundles(12, 0, 0, 2), []int{3, 7}), out(11000, true))
}

// expectedCover chooses rings one after the other.
func expectedCover(n impl.Network) ([][]int, []int) {
	chosen, left := [][]int{}, upTo(len(n.Fibers))
	for {
		var best []int
		most := 0
		for _, ring := range expectedRings(n) {
			own, across := expectedProtected(n, ring)
			count := 0
			for _, fiber := range append(own, across...) {
				if slices.Contains(left, fiber) {
					count++
				}
			}
			if count > most {
				best, most = ring, count
			}
		}
		if most == 0 {
			return chosen, left
		}
		chosen = append(chosen, best)
		own, across := expectedProtected(n, best)
		left = slices.DeleteFunc(left, func(fiber int) bool { return slices.Contains(own, fiber) || slices.Contains(across, fiber) })
	}
}

func TestCoverRingsAndUnringedFibers(t *testing.T) {
	check(t, impl.CoverRings, in(kite()), out([][]int{{0, 3, 4, 2}}, true))
	check(t, impl.CoverRings, in(parallels()), out([][]int{{0, 1}, {3, 4}}, true))
	check(t, impl.CoverRings, in(hub()), out([][]int{{0, 2, 5, 3, 4, 1}}, true))
	check(t, impl.UnringedFibers, in(kite()), out([]int{}, true))
	check(t, impl.UnringedFibers, in(bundles(1, 1, 1, 1)), out([]int{3}, true))
	check(t, impl.UnringedFibers, in(bundles(1, 1, 0, 2)), out([]int{0, 1}, true))
	// Two triangles with a common node: ties, and two rings are needed.
	n := network("a b c d e", [4]int{0, 1, 1}, [4]int{0, 2, 1}, [4]int{0, 3, 1}, [4]int{0, 4, 1}, [4]int{1, 2, 1}, [4]int{3, 4, 1})
	check(t, impl.CoverRings, in(n), out([][]int{{0, 4, 1}, {2, 5, 3}}, true))
}

func TestRingsOfSamples(t *testing.T) {
	next := numbers(17)
	rings, straddling := 0, 0
	for _, n := range ringNetworks() {
		all := expectedRings(n)
		check(t, impl.AllRings, in(n), out(all, true))
		cover, left := expectedCover(n)
		check(t, impl.CoverRings, in(n), out(cover, true))
		check(t, impl.UnringedFibers, in(n), out(left, true))
		for i := 0; i < len(all); i += 1 + len(all)/12 {
			rings++
			straddling += compareRing(t, n, all[i], next)
		}
	}
	if rings < 150 || straddling < 50 {
		t.Errorf("only %d rings with %d straddling fibers", rings, straddling)
	}
}

// compareRing compares everything that depends on a ring, and returns the number of its straddling
// fibers.
func compareRing(t *testing.T, n impl.Network, ring []int, next func(limit int) int) int {
	t.Helper()
	own, across := expectedProtected(n, ring)
	check(t, impl.IsRing, in(n, ring), out(true))
	check(t, impl.ProtectedFibers, in(n, ring), out(own, across, true))
	check(t, impl.RingEfficiency, in(n, ring), out((len(own)+2*len(across))*1000/len(ring), true))
	closed := route(n.Fibers[ring[0]].A, ring[:len(ring)-1]...)
	check(t, impl.RingNodes, in(n, ring), out(expectedNodes(n, closed), true))
	working := []int{}
	for range n.Fibers {
		working = append(working, next(30))
	}
	units := 0
	for slices.ContainsFunc(own, func(i int) bool { return working[i] > units }) || slices.ContainsFunc(across, func(i int) bool { return working[i] > 2*units }) {
		units++
	}
	check(t, impl.RingCapacity, in(n, ring, working), out(units, true))
	for fiber, f := range n.Fibers {
		if !slices.Contains(own, fiber) && !slices.Contains(across, fiber) {
			checkFails(t, impl.SwitchedRoutes, n, ring, fiber)
			continue
		}
		along := slices.DeleteFunc(expectedAll(n, f.A, f.B), func(r impl.Route) bool {
			return slices.ContainsFunc(r.Fibers, func(i int) bool { return i == fiber || !slices.Contains(ring, i) })
		})
		check(t, impl.SwitchedRoutes, in(n, ring, fiber), out(along, true))
	}
	return len(across)
}

func TestRingsFail(t *testing.T) {
	failing := func(n impl.Network, ring []int) {
		check(t, impl.IsRing, in(n, ring), out(false))
		checkFails(t, impl.RingNodes, n, ring)
		checkFails(t, impl.ProtectedFibers, n, ring)
		checkFails(t, impl.SwitchedRoutes, n, ring, 0)
		checkFails(t, impl.RingCapacity, n, ring, make([]int, len(n.Fibers)))
		checkFails(t, impl.RingEfficiency, n, ring)
	}
	for _, ring := range [][]int{nil, {0}, {2, 4, 3, 0}, {0, 3}, {0, 0}, {0, 3, 5}, {-1, 3, 1}, {3, 1, 0}, {0, 3, 4, 2, 1}, {minInt, maxInt}} {
		failing(kite(), ring)
	}
	for _, n := range brokenNetworks() {
		failing(n, []int{0, 1})
		failing(n, nil)
		checkFails(t, impl.AllRings, n)
		checkFails(t, impl.CoverRings, n)
		checkFails(t, impl.UnringedFibers, n)
	}
}
