package tests

import (
	"slices"
	"testing"

	"loop.example/g00897/impl"
)

// The tests of this file compare every function of chapter 4 with what the document states:
// ordinary inputs, the edge cases that the chapter names, and invalid inputs.

func TestIsValidRoute(t *testing.T) {
	for _, n := range sampleNetworks() {
		for i, r := range expectedRoutes(n) {
			if i < 200 {
				check(t, impl.IsValidRoute, in(n, r), out(true))
			}
		}
	}
	for _, r := range badRoutes() {
		check(t, impl.IsValidRoute, in(square(), r), out(false))
	}
	for _, n := range brokenNetworks() {
		check(t, impl.IsValidRoute, in(n, route(0, 0)), out(false))
	}
	// Parallel fibers, one after the other, visit a node twice.
	check(t, impl.IsValidRoute, in(parallels(), route(0, 0, 1)), out(false))
	check(t, impl.IsValidRoute, in(parallels(), route(0, 1, 5)), out(true))
}

// TestIsValidRouteOfAllLists tries all short lists of fibers from all nodes.
func TestIsValidRouteOfAllLists(t *testing.T) {
	for _, n := range []impl.Network{square(), trap(), network("a b c", [4]int{0, 1, 1}, [4]int{0, 1, 1}, [4]int{1, 2, 1})} {
		valid := expectedRoutes(n)
		lists := [][]int{{}}
		for k := 0; k < len(lists); k++ {
			if len(lists[k]) < 4 {
				for fiber := -1; fiber <= len(n.Fibers); fiber++ {
					lists = append(lists, append(slices.Clone(lists[k]), fiber))
				}
			}
			for start := -1; start <= len(n.Nodes); start++ {
				r := route(start, lists[k]...)
				want := slices.ContainsFunc(valid, func(v impl.Route) bool { return v.Start == start && slices.Equal(v.Fibers, r.Fibers) })
				if impl.IsValidRoute(n, r) != want {
					t.Errorf("%v is a valid route of %v: %v", r, n, !want)
				}
			}
		}
	}
}

func TestRouteNodesAndLength(t *testing.T) {
	check(t, impl.RouteNodes, in(square(), route(0, 1, 3)), out([]int{0, 3, 2}, true))
	check(t, impl.RouteNodes, in(square(), route(2, 2, 0, 1)), out([]int{2, 1, 0, 3}, true))
	check(t, impl.RouteLength, in(square(), route(0, 1, 3)), out(400, true))
	check(t, impl.RouteLength, in(square(), route(1, 2)), out(100, true))
	for _, n := range sampleNetworks() {
		for i, r := range expectedRoutes(n) {
			if i < 100 {
				check(t, impl.RouteNodes, in(n, r), out(expectedNodes(n, r), true))
				check(t, impl.RouteLength, in(n, r), out(expectedLength(n, r), true))
			}
		}
	}
	for _, r := range badRoutes() {
		checkFails(t, impl.RouteNodes, square(), r)
		checkFails(t, impl.RouteLength, square(), r)
	}
	for _, n := range brokenNetworks() {
		checkFails(t, impl.RouteNodes, n, route(0, 0))
		checkFails(t, impl.RouteLength, n, route(0, 0))
	}
}

func expectedLength(n impl.Network, r impl.Route) int {
	length := 0
	for _, fiber := range r.Fibers {
		length += n.Fibers[fiber].Length
	}
	return length
}

// expectedRouteOrder compares two valid routes.
func expectedRouteOrder(n impl.Network, a impl.Route, b impl.Route) int {
	sign := func(x int) int { return min(1, max(-1, x)) }
	if d := expectedLength(n, a) - expectedLength(n, b); d != 0 {
		return sign(d)
	}
	if d := len(a.Fibers) - len(b.Fibers); d != 0 {
		return sign(d)
	}
	for i := range a.Fibers {
		if d := a.Fibers[i] - b.Fibers[i]; d != 0 {
			return sign(d)
		}
	}
	return sign(a.Start - b.Start)
}

func TestCompareRoutes(t *testing.T) {
	// The routes ascend: by length, by the number of fibers, by the first fiber that differs, and
	// by Start.
	n := network("a b c d", [4]int{0, 1, 10}, [4]int{0, 1, 10}, [4]int{0, 2, 20}, [4]int{1, 2, 10}, [4]int{2, 3, 10})
	routes := []impl.Route{route(0, 0), route(1, 0), route(0, 1), route(1, 1), route(1, 3), route(2, 3), route(2, 4), route(3, 4),
		route(0, 2), route(2, 2), route(0, 0, 3), route(0, 1, 3), route(2, 3, 0), route(2, 3, 1), route(1, 3, 4), route(3, 4, 3),
		route(1, 0, 2), route(1, 1, 2), route(0, 2, 3), route(0, 2, 4), route(0, 0, 3, 4), route(0, 1, 3, 4), route(3, 4, 3, 0)}
	for i, a := range routes {
		for k, b := range routes {
			check(t, impl.CompareRoutes, in(n, a, b), out(min(1, max(-1, i-k)), true))
		}
	}
	for _, r := range badRoutes() {
		checkFails(t, impl.CompareRoutes, square(), r, route(0, 0))
		checkFails(t, impl.CompareRoutes, square(), route(0, 0), r)
	}
	checkFails(t, impl.CompareRoutes, network("a b", [4]int{1, 0, 1}), route(0, 0), route(0, 0))
}

func TestCompareRoutesOfSamples(t *testing.T) {
	for _, n := range sampleNetworks() {
		routes := expectedRoutes(n)
		for i := 0; i < len(routes); i += 1 + len(routes)/30 {
			for k := 0; k < len(routes); k += 1 + len(routes)/30 {
				check(t, impl.CompareRoutes, in(n, routes[i], routes[k]), out(expectedRouteOrder(n, routes[i], routes[k]), true))
			}
		}
	}
}

func TestReverseRoute(t *testing.T) {
	check(t, impl.ReverseRoute, in(square(), route(0, 0)), out(route(1, 0), true))
	check(t, impl.ReverseRoute, in(square(), route(0, 0, 2)), out(route(2, 2, 0), true))
	check(t, impl.ReverseRoute, in(square(), route(3, 3, 2, 0)), out(route(0, 0, 2, 3), true))
	for _, r := range badRoutes() {
		checkFails(t, impl.ReverseRoute, square(), r)
	}
	checkFails(t, impl.ReverseRoute, network("a a", [4]int{0, 1, 1}), route(0, 0))
}

func TestJoinRoutes(t *testing.T) {
	n := square()
	check(t, impl.JoinRoutes, in(n, route(0, 0), route(1, 2)), out(route(0, 0, 2), true))
	check(t, impl.JoinRoutes, in(n, route(0, 0), route(1, 2, 3)), out(route(0, 0, 2, 3), true))
	check(t, impl.JoinRoutes, in(n, route(1, 0, 1), route(3, 3)), out(route(1, 0, 1, 3), true))
	// b does not start at the end of a, even where it could go on from there.
	checkFails(t, impl.JoinRoutes, n, route(0, 0), route(2, 3))
	checkFails(t, impl.JoinRoutes, n, route(0, 0), route(2, 2))
	checkFails(t, impl.JoinRoutes, n, route(1, 0), route(1, 2))
	// A node would be visited twice.
	checkFails(t, impl.JoinRoutes, n, route(0, 0), route(1, 0))
	checkFails(t, impl.JoinRoutes, n, route(0, 0, 2), route(2, 3, 1))
	checkFails(t, impl.JoinRoutes, n, route(0, 0, 2), route(2, 2))
	checkFails(t, impl.JoinRoutes, n, route(0, 0, 2, 3), route(3, 1))
	checkFails(t, impl.JoinRoutes, parallels(), route(0, 0), route(1, 1))
	for _, r := range badRoutes() {
		checkFails(t, impl.JoinRoutes, n, r, route(1, 2))
		checkFails(t, impl.JoinRoutes, n, route(0, 0), r)
		checkFails(t, impl.JoinRoutes, n, r, r)
	}
	checkFails(t, impl.JoinRoutes, impl.Network{}, route(0, 0), route(1, 2))
}

// expectedAll returns all routes from one node to another one in ascending order.
func expectedAll(n impl.Network, from int, to int) []impl.Route {
	var all []impl.Route
	for _, r := range expectedRoutes(n) {
		nodes := expectedNodes(n, r)
		if r.Start == from && nodes[len(nodes)-1] == to {
			all = append(all, r)
		}
	}
	slices.SortFunc(all, func(a impl.Route, b impl.Route) int { return expectedRouteOrder(n, a, b) })
	return all
}

func TestAllRoutes(t *testing.T) {
	check(t, impl.AllRoutes, in(square(), 0, 3), out([]impl.Route{route(0, 1), route(0, 0, 2, 3)}, true))
	check(t, impl.AllRoutes, in(square(), 2, 0), out([]impl.Route{route(2, 2, 0), route(2, 3, 1)}, true))
	check(t, impl.AllRoutes, in(network("a b"), 0, 1), out([]impl.Route{}, true))
	check(t, impl.AllRoutes, in(parallels(), 0, 3), out([]impl.Route{}, true))
	check(t, impl.AllRoutes, in(parallels(), 0, 1), out([]impl.Route{route(0, 0), route(0, 1), route(0, 2)}, true))
	for _, n := range sampleNetworks() {
		for from := range n.Nodes {
			for to := range n.Nodes {
				if from == to {
					checkFails(t, impl.AllRoutes, n, from, to)
				} else {
					check(t, impl.AllRoutes, in(n, from, to), out(expectedAll(n, from, to), true))
				}
			}
		}
	}
	for _, node := range []int{-1, 4, minInt, maxInt} {
		checkFails(t, impl.AllRoutes, square(), node, 0)
		checkFails(t, impl.AllRoutes, square(), 0, node)
		checkFails(t, impl.AllRoutes, square(), node, node)
	}
	for _, n := range brokenNetworks() {
		checkFails(t, impl.AllRoutes, n, 0, 1)
	}
}

// TestAllRoutesOfTheMostRoutes uses the network with the most routes. Without a node of which d
// fibers end, a network with m fibers has m-d fibers left, so that there are at most as many
// routes as the greatest product of numbers whose sum is MaxFibers: 162, less than MaxRoutes.
func TestAllRoutesOfTheMostRoutes(t *testing.T) {
	n := chain(3, 3, 3, 3, 2)
	routes := expectedAll(n, 0, 5)
	if len(n.Fibers) != impl.MaxFibers || len(routes) != 162 {
		t.Fatalf("%d fibers and %d routes", len(n.Fibers), len(routes))
	}
	check(t, impl.AllRoutes, in(n, 0, 5), out(routes, true))
	check(t, impl.AllRoutes, in(n, 5, 0), out(expectedAll(n, 5, 0), true))
}

func TestSharedFibers(t *testing.T) {
	n := square()
	check(t, impl.SharedFibers, in(n, route(0, 0, 2), route(1, 2)), out([]int{2}, true))
	check(t, impl.SharedFibers, in(n, route(0, 0, 2), route(0, 1, 3)), out([]int{}, true))
	check(t, impl.SharedFibers, in(n, route(3, 3, 2, 0), route(3, 1, 0, 2)), out([]int{0, 2}, true))
	check(t, impl.SharedFibers, in(n, route(3, 3, 2, 0), route(0, 0, 2, 3)), out([]int{0, 2, 3}, true))
	check(t, impl.SharedFibers, in(parallels(), route(0, 0, 3), route(0, 1, 3)), out([]int{3}, true))
	check(t, impl.SharedFibers, in(chain(2, 2, 2, 2, 2, 2, 2), route(0, 1, 3, 5, 7, 9, 11, 13), route(7, 13, 11, 9, 6, 4, 2, 0)), out([]int{9, 11, 13}, true))
	for _, r := range badRoutes() {
		checkFails(t, impl.SharedFibers, n, r, route(0, 0))
		checkFails(t, impl.SharedFibers, n, route(0, 0), r)
	}
	checkFails(t, impl.SharedFibers, impl.Network{}, route(0, 0), route(0, 0))
}

func TestRiskDisjoint(t *testing.T) {
	n := square()
	check(t, impl.RiskDisjoint, in(n, route(0, 0, 2), route(0, 1, 3)), out(true, true))
	check(t, impl.RiskDisjoint, in(n, route(0, 1), route(2, 3)), out(false, true))
	check(t, impl.RiskDisjoint, in(n, route(0, 0), route(1, 0)), out(false, true))
	check(t, impl.RiskDisjoint, in(n, route(0, 0), route(1, 2)), out(true, true))
	check(t, impl.RiskDisjoint, in(n, route(3, 1, 0), route(1, 2, 3)), out(false, true))
	// Equal fibers with Risk 0 do not fail together, but those with a positive Risk do.
	check(t, impl.RiskDisjoint, in(parallels(), route(0, 0), route(0, 1)), out(true, true))
	check(t, impl.RiskDisjoint, in(parallels(), route(1, 3), route(1, 4)), out(false, true))
	for _, r := range badRoutes() {
		checkFails(t, impl.RiskDisjoint, n, r, route(0, 0))
		checkFails(t, impl.RiskDisjoint, n, route(0, 0), r)
	}
	checkFails(t, impl.RiskDisjoint, impl.Network{}, route(0, 0), route(0, 0))
}

func TestRoutesThrough(t *testing.T) {
	n := square()
	routes := []impl.Route{route(0, 0, 2), route(0, 1, 3), route(1, 0), route(0, 0, 2), route(2, 3)}
	for group := range 1 << len(n.Fibers) {
		var list, want []int
		for fiber := range n.Fibers {
			if group>>fiber&1 == 1 {
				list = append(list, fiber)
			}
		}
		for i, r := range routes {
			if slices.ContainsFunc(r.Fibers, func(fiber int) bool { return slices.Contains(list, fiber) }) {
				want = append(want, i)
			}
		}
		check(t, impl.RoutesThrough, in(n, routes, list), out(want, true))
	}
	check(t, impl.RoutesThrough, in(n, []impl.Route{}, []int{1, 3}), out([]int{}, true))
	for _, group := range [][]int{{4}, {-1}, {0, 0}, {1, 0}, {0, 1, 2, 3, 4}, {minInt}, {maxInt}, {-1, 2}} {
		checkFails(t, impl.RoutesThrough, n, routes, group)
	}
	for _, r := range badRoutes() {
		checkFails(t, impl.RoutesThrough, n, []impl.Route{route(0, 0), r, route(0, 1)}, []int{0})
	}
	for _, n := range brokenNetworks() {
		checkFails(t, impl.RoutesThrough, n, []impl.Route{}, []int{})
	}
}

func TestRoutesThroughAtTheLimit(t *testing.T) {
	n := square()
	var routes []impl.Route
	var want []int
	for i := range impl.MaxRoutes {
		routes = append(routes, route(0, 0))
		want = append(want, i)
	}
	check(t, impl.RoutesThrough, in(n, routes, []int{0}), out(want, true))
	checkFails(t, impl.RoutesThrough, n, append(routes, route(0, 0)), []int{0})
	checkFails(t, impl.RoutesThrough, n, append(routes, route(0, 0)), []int{})
}
