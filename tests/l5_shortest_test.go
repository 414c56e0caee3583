package tests

import (
	"slices"
	"testing"

	"loop.example/g00897/impl"
)

// The tests of this file compare every function of chapter 5 with what the document states:
// ordinary inputs, the edge cases that the chapter names, and invalid inputs.

// forAllPairs calls f for all nodes of all samples, also for equal ones, with all routes between
// them in ascending order.
func forAllPairs(f func(n impl.Network, from int, to int, routes []impl.Route)) {
	for _, n := range append(sampleNetworks(), chain(3, 3, 3, 3, 2)) {
		byEnds := map[[2]int][]impl.Route{}
		for _, r := range expectedRoutes(n) {
			nodes := expectedNodes(n, r)
			ends := [2]int{r.Start, nodes[len(nodes)-1]}
			byEnds[ends] = append(byEnds[ends], r)
		}
		for from := range n.Nodes {
			for to := range n.Nodes {
				routes := byEnds[[2]int{from, to}]
				slices.SortFunc(routes, func(a impl.Route, b impl.Route) int { return expectedRouteOrder(n, a, b) })
				f(n, from, to, routes)
			}
		}
	}
}

// checkFirst calls f, which must return the first of the routes that are good, or fail if there is
// none.
func checkFirst(t *testing.T, f any, args []any, routes []impl.Route, good func(r impl.Route) bool) {
	t.Helper()
	i := slices.IndexFunc(routes, good)
	if i < 0 {
		checkFails(t, f, args...)
		return
	}
	check(t, f, args, out(routes[i], true))
}

// checkBadNodes calls f, which must fail, with a network and two nodes at least one of which does
// not exist, and with equal nodes.
func checkBadNodes(t *testing.T, f any, more ...any) {
	t.Helper()
	for _, node := range []int{-1, 4, minInt, maxInt} {
		checkFails(t, f, append(in(square(), node, 0), more...)...)
		checkFails(t, f, append(in(square(), 0, node), more...)...)
		checkFails(t, f, append(in(square(), node, node), more...)...)
	}
	checkFails(t, f, append(in(square(), 2, 2), more...)...)
	for _, n := range brokenNetworks() {
		checkFails(t, f, append(in(n, 0, 1), more...)...)
	}
}

func TestDistances(t *testing.T) {
	check(t, impl.Distances, in(square(), 0), out([]int{0, 100, 200, 300}, true))
	check(t, impl.Distances, in(square(), 3), out([]int{300, 200, 100, 0}, true))
	check(t, impl.Distances, in(parallels(), 0), out([]int{0, 50, 120, -1}, true))
	check(t, impl.Distances, in(parallels(), 3), out([]int{-1, -1, -1, 0}, true))
	check(t, impl.Distances, in(network("a b"), 1), out([]int{-1, 0}, true))
	// The shortest route has more fibers than another one.
	check(t, impl.Distances, in(trap(), 0), out([]int{0, 100, 200, 300}, true))
	check(t, impl.Distances, in(chain(2, 2, 2, 2, 2, 2, 2), 0), out([]int{0, 10, 20, 30, 40, 50, 60, 70}, true))
	forAllPairs(func(n impl.Network, from int, to int, routes []impl.Route) {
		want := -1
		if from == to {
			want = 0
		} else if len(routes) > 0 {
			want = expectedLength(n, routes[0])
		}
		if distances, ok := impl.Distances(n, from); !ok || len(distances) != len(n.Nodes) || distances[to] != want {
			t.Errorf("Distances(%v, %d) = %v, %v", n, from, distances, ok)
		}
	})
	for _, node := range []int{-1, 4, minInt, maxInt} {
		checkFails(t, impl.Distances, square(), node)
	}
	for _, n := range brokenNetworks() {
		checkFails(t, impl.Distances, n, 0)
	}
}

func TestShortestRoute(t *testing.T) {
	check(t, impl.ShortestRoute, in(square(), 0, 3), out(route(0, 1), true))
	check(t, impl.ShortestRoute, in(square(), 3, 1), out(route(3, 3, 2), true))
	// Of equal parallel fibers, and of routes of equal length, the first one is returned.
	check(t, impl.ShortestRoute, in(parallels(), 2, 0), out(route(2, 3, 0), true))
	check(t, impl.ShortestRoute, in(network("a b c", [4]int{0, 1, 1}, [4]int{0, 2, 2}, [4]int{1, 2, 1}), 0, 2), out(route(0, 1), true))
	check(t, impl.ShortestRoute, in(network("a b c d", [4]int{0, 1, 2}, [4]int{0, 2, 1}, [4]int{1, 3, 1}, [4]int{2, 3, 2}), 0, 3), out(route(0, 0, 2), true))
	check(t, impl.ShortestRoute, in(network("a b c d", [4]int{0, 1, 2}, [4]int{0, 2, 1}, [4]int{1, 3, 1}, [4]int{2, 3, 2}), 3, 0), out(route(3, 2, 0), true))
	checkFails(t, impl.ShortestRoute, parallels(), 0, 3)
	forAllPairs(func(n impl.Network, from int, to int, routes []impl.Route) {
		checkFirst(t, impl.ShortestRoute, in(n, from, to), routes, func(r impl.Route) bool { return true })
	})
	checkBadNodes(t, impl.ShortestRoute)
}

func TestShortestRoutes(t *testing.T) {
	check(t, impl.ShortestRoutes, in(square(), 0, 2, 1), out([]impl.Route{route(0, 0, 2)}, true))
	check(t, impl.ShortestRoutes, in(square(), 0, 2, 2), out([]impl.Route{route(0, 0, 2), route(0, 1, 3)}, true))
	check(t, impl.ShortestRoutes, in(square(), 0, 2, impl.MaxRoutes), out([]impl.Route{route(0, 0, 2), route(0, 1, 3)}, true))
	check(t, impl.ShortestRoutes, in(parallels(), 0, 3, 5), out([]impl.Route{}, true))
	forAllPairs(func(n impl.Network, from int, to int, routes []impl.Route) {
		for _, k := range []int{1, 2, 3, 50, impl.MaxRoutes} {
			if from == to {
				checkFails(t, impl.ShortestRoutes, n, from, to, k)
				continue
			}
			check(t, impl.ShortestRoutes, in(n, from, to, k), out(routes[:min(k, len(routes))], true))
		}
	})
	for _, k := range []int{0, -1, impl.MaxRoutes + 1, minInt, maxInt} {
		checkFails(t, impl.ShortestRoutes, square(), 0, 2, k)
		checkFails(t, impl.ShortestRoutes, parallels(), 0, 3, k)
	}
	checkBadNodes(t, impl.ShortestRoutes, 1)
}

func TestFewestFibers(t *testing.T) {
	check(t, impl.FewestFibers, in(square(), 0, 2), out(route(0, 0, 2), true))
	check(t, impl.FewestFibers, in(trap(), 0, 2), out(route(0, 1), true))
	check(t, impl.FewestFibers, in(trap(), 3, 0), out(route(3, 3, 0), true))
	check(t, impl.FewestFibers, in(parallels(), 1, 0), out(route(1, 0), true))
	checkFails(t, impl.FewestFibers, parallels(), 0, 3)
	forAllPairs(func(n impl.Network, from int, to int, routes []impl.Route) {
		fewest := impl.MaxNodes
		for _, r := range routes {
			fewest = min(fewest, len(r.Fibers))
		}
		checkFirst(t, impl.FewestFibers, in(n, from, to), routes, func(r impl.Route) bool { return len(r.Fibers) == fewest })
	})
	checkBadNodes(t, impl.FewestFibers)
}

func TestShortestAvoiding(t *testing.T) {
	check(t, impl.ShortestAvoiding, in(square(), 0, 2, []int{}), out(route(0, 0, 2), true))
	check(t, impl.ShortestAvoiding, in(square(), 0, 2, []int{2}), out(route(0, 1, 3), true))
	check(t, impl.ShortestAvoiding, in(parallels(), 0, 2, []int{0, 1, 3}), out(route(0, 2, 4), true))
	checkFails(t, impl.ShortestAvoiding, square(), 0, 2, []int{0, 1, 2, 3})
	checkFails(t, impl.ShortestAvoiding, square(), 0, 2, []int{1, 2})
	next := numbers(5)
	forAllPairs(func(n impl.Network, from int, to int, routes []impl.Route) {
		for range 4 {
			var avoided []int
			for fiber := range n.Fibers {
				if next(4) == 0 {
					avoided = append(avoided, fiber)
				}
			}
			uses := func(r impl.Route) bool {
				return slices.ContainsFunc(r.Fibers, func(fiber int) bool { return slices.Contains(avoided, fiber) })
			}
			checkFirst(t, impl.ShortestAvoiding, in(n, from, to, avoided), routes, func(r impl.Route) bool { return !uses(r) })
		}
	})
	for _, fibers := range [][]int{{4}, {-1}, {1, 0}, {2, 2}, {0, 1, 2, 3, 4}, {minInt}, {maxInt}, {3, 4}} {
		checkFails(t, impl.ShortestAvoiding, square(), 0, 1, fibers)
	}
	checkBadNodes(t, impl.ShortestAvoiding, []int{})
	checkBadNodes(t, impl.ShortestAvoiding, []int{0})
}

func TestShortestVia(t *testing.T) {
	check(t, impl.ShortestVia, in(square(), 0, 3, 2), out(route(0, 1, 3), true))
	check(t, impl.ShortestVia, in(square(), 0, 0, 2), out(route(0, 0, 2), true))
	check(t, impl.ShortestVia, in(square(), 0, 2, 2), out(route(0, 0, 2), true))
	// A dead end is visited by no route.
	checkFails(t, impl.ShortestVia, network("a b c", [4]int{0, 1, 1}, [4]int{1, 2, 1}), 0, 2, 1)
	checkFails(t, impl.ShortestVia, parallels(), 0, 3, 1)
	checkFails(t, impl.ShortestVia, parallels(), 0, 1, 3)
	forAllPairs(func(n impl.Network, from int, to int, routes []impl.Route) {
		for via := range n.Nodes {
			visits := func(r impl.Route) bool { return slices.Contains(expectedNodes(n, r), via) }
			checkFirst(t, impl.ShortestVia, in(n, from, via, to), routes, visits)
		}
	})
	for _, node := range []int{-1, 4, minInt, maxInt} {
		checkFails(t, impl.ShortestVia, square(), node, 1, 0)
		checkFails(t, impl.ShortestVia, square(), 0, node, 1)
		checkFails(t, impl.ShortestVia, square(), 0, 1, node)
		checkFails(t, impl.ShortestVia, square(), node, node, 0)
	}
	checkFails(t, impl.ShortestVia, square(), 1, 1, 1)
	for _, n := range brokenNetworks() {
		checkFails(t, impl.ShortestVia, n, 0, 0, 1)
	}
}

func TestDiameter(t *testing.T) {
	check(t, impl.Diameter, in(square()), out(0, 3, 300, true))
	check(t, impl.Diameter, in(trap()), out(0, 3, 300, true))
	check(t, impl.Diameter, in(network("a b", [4]int{0, 1, 7}, [4]int{0, 1, 9})), out(0, 1, 7, true))
	// On ties the first pair is returned.
	check(t, impl.Diameter, in(network("a b c", [4]int{0, 1, 4}, [4]int{0, 2, 4}, [4]int{1, 2, 4})), out(0, 1, 4, true))
	check(t, impl.Diameter, in(network("a b c d", [4]int{0, 1, 1}, [4]int{0, 3, 5}, [4]int{1, 2, 5}, [4]int{2, 3, 1})), out(0, 2, 6, true))
	check(t, impl.Diameter, in(network("a b c", [4]int{0, 1, 1}, [4]int{1, 2, 4})), out(0, 2, 5, true))
	checkFails(t, impl.Diameter, network("a b"))
	checkFails(t, impl.Diameter, parallels())
	checkFails(t, impl.Diameter, network("a b c d", [4]int{0, 1, 1}, [4]int{2, 3, 1}))
	for _, n := range brokenNetworks() {
		checkFails(t, impl.Diameter, n)
	}
}

func TestDiameterOfSamples(t *testing.T) {
	type pair struct{ a, b, length int }
	found := map[string][]pair{}
	forAllPairs(func(n impl.Network, from int, to int, routes []impl.Route) {
		text, _ := impl.FormatNetwork(n)
		if from < to && len(routes) > 0 {
			found[text] = append(found[text], pair{from, to, expectedLength(n, routes[0])})
		} else if from < to {
			found[text] = append(found[text], pair{from, to, -1})
		}
	})
	for text, pairs := range found {
		n, _ := impl.ParseNetwork(text)
		greatest := pairs[0]
		for _, p := range pairs {
			if greatest.length >= 0 && (p.length < 0 || p.length > greatest.length) {
				greatest = p
			}
		}
		if greatest.length < 0 {
			checkFails(t, impl.Diameter, n)
			continue
		}
		check(t, impl.Diameter, in(n), out(greatest.a, greatest.b, greatest.length, true))
	}
}

func TestDetourFactor(t *testing.T) {
	check(t, impl.DetourFactor, in(square(), route(0, 1, 3)), out(2000, true))
	check(t, impl.DetourFactor, in(square(), route(0, 0, 2)), out(1000, true))
	check(t, impl.DetourFactor, in(square(), route(3, 1)), out(1000, true))
	// The quotient is rounded down.
	check(t, impl.DetourFactor, in(parallels(), route(0, 0, 5)), out(1083, true))
	check(t, impl.DetourFactor, in(network("a b", [4]int{0, 1, 3}, [4]int{0, 1, 5}), route(1, 1)), out(1666, true))
	check(t, impl.DetourFactor, in(network("a b", [4]int{0, 1, 1}, [4]int{0, 1, 5000}), route(0, 1)), out(5000000, true))
	forAllPairs(func(n impl.Network, from int, to int, routes []impl.Route) {
		for i := 0; i < len(routes); i += 1 + len(routes)/5 {
			check(t, impl.DetourFactor, in(n, routes[i]), out(expectedLength(n, routes[i])*1000/expectedLength(n, routes[0]), true))
		}
	})
	for _, r := range badRoutes() {
		checkFails(t, impl.DetourFactor, square(), r)
	}
	for _, n := range brokenNetworks() {
		checkFails(t, impl.DetourFactor, n, route(0, 0))
	}
}
