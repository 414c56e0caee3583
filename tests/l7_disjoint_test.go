package tests

import (
	"slices"
	"testing"

	"loop.example/g00897/impl"
)

// The tests of this file compare every function of chapter 7 with what the document states:
// ordinary inputs, the edge cases that the chapter names, and invalid inputs.

var kinds = []int{impl.DisjointFibers, impl.DisjointRisks, impl.DisjointNodes}

var badKinds = []int{0, 4, -1, minInt, maxInt}

// have reports whether two lists have an element in common.
func have(a []int, b []int) bool {
	return slices.ContainsFunc(a, func(x int) bool { return slices.Contains(b, x) })
}

// expectedDisjoint reports whether two valid routes with the same ends are disjoint of a kind.
func expectedDisjoint(n impl.Network, a impl.Route, b impl.Route, kind int) bool {
	if have(a.Fibers, b.Fibers) {
		return false
	}
	switch kind {
	case impl.DisjointRisks:
		return len(expectedRisks(n, a, b)) == 0
	case impl.DisjointNodes:
		x, y := expectedNodes(n, a), expectedNodes(n, b)
		return !have(x[1:len(x)-1], y[1:len(y)-1])
	}
	return true
}

// expectedRisks returns the indices of the risk groups that contain fibers of both routes.
func expectedRisks(n impl.Network, a impl.Route, b impl.Route) []int {
	var both []int
	groups, _ := impl.RiskGroups(n)
	for i, group := range groups {
		if have(group, a.Fibers) && have(group, b.Fibers) {
			both = append(both, i)
		}
	}
	return both
}

type pair struct {
	a impl.Route
	b impl.Route
}

// expectedPairs returns all pairs of a kind of some routes in ascending order.
func expectedPairs(n impl.Network, routes []impl.Route, kind int) []pair {
	var pairs []pair
	for i, a := range routes {
		for _, b := range routes[i+1:] {
			if expectedDisjoint(n, a, b, kind) {
				pairs = append(pairs, pair{a, b})
			}
		}
	}
	return pairs
}

// diamond connects a and d by three routes: one over b, one over c, and a single fiber that fails
// together with the fiber b-d.
func diamond() impl.Network {
	return network("a b c d", [4]int{0, 1, 10}, [4]int{0, 2, 20}, [4]int{0, 3, 90, 1}, [4]int{1, 3, 10, 1}, [4]int{2, 3, 20})
}

func TestAreDisjoint(t *testing.T) {
	n := diamond()
	overB, overC, single := route(0, 0, 3), route(0, 1, 4), route(0, 2)
	for _, kind := range kinds {
		check(t, impl.AreDisjoint, in(n, overB, overC, kind), out(true, true))
		check(t, impl.AreDisjoint, in(n, overC, single, kind), out(true, true))
		check(t, impl.AreDisjoint, in(n, single, overB, kind), out(kind != impl.DisjointRisks, true))
		check(t, impl.AreDisjoint, in(n, single, single, kind), out(false, true))
		check(t, impl.AreDisjoint, in(parallels(), route(0, 0), route(0, 1), kind), out(true, true))
		check(t, impl.AreDisjoint, in(parallels(), route(1, 3), route(1, 4), kind), out(kind != impl.DisjointRisks, true))
		check(t, impl.AreDisjoint, in(parallels(), route(0, 0, 3), route(0, 1, 5), kind), out(kind != impl.DisjointNodes, true))
		// Routes that differ in their start, in their end, or are opposite.
		checkFails(t, impl.AreDisjoint, n, overB, route(0, 1), kind)
		checkFails(t, impl.AreDisjoint, n, overB, route(1, 0, 2), kind)
		checkFails(t, impl.AreDisjoint, n, overB, route(2, 4), kind)
		checkFails(t, impl.AreDisjoint, n, overB, route(3, 4, 1), kind)
		for _, r := range badRoutes() {
			checkFails(t, impl.AreDisjoint, square(), r, route(0, 0), kind)
			checkFails(t, impl.AreDisjoint, square(), route(0, 0), r, kind)
		}
		checkFails(t, impl.AreDisjoint, network("a b", [4]int{1, 0, 1}), route(0, 0), route(0, 0), kind)
	}
	for _, kind := range badKinds {
		checkFails(t, impl.AreDisjoint, n, overB, overC, kind)
	}
}

func TestPartnerOf(t *testing.T) {
	n := diamond()
	for _, kind := range kinds {
		check(t, impl.PartnerOf, in(n, route(0, 0, 3), kind), out(route(0, 1, 4), true, true))
		check(t, impl.PartnerOf, in(n, route(3, 4, 1), kind), out(route(3, 3, 0), true, true))
		check(t, impl.PartnerOf, in(trap(), route(0, 0, 2, 4), kind), out(impl.Route{}, false, true))
		check(t, impl.PartnerOf, in(network("a b", [4]int{0, 1, 1}), route(0, 0), kind), out(impl.Route{}, false, true))
		for _, r := range badRoutes() {
			checkFails(t, impl.PartnerOf, square(), r, kind)
		}
		checkFails(t, impl.PartnerOf, impl.Network{}, route(0, 0), kind)
	}
	// The partner may be less than the route.
	check(t, impl.PartnerOf, in(n, route(0, 2), impl.DisjointFibers), out(route(0, 0, 3), true, true))
	check(t, impl.PartnerOf, in(n, route(0, 2), impl.DisjointRisks), out(route(0, 1, 4), true, true))
	for _, kind := range badKinds {
		checkFails(t, impl.PartnerOf, n, route(0, 0), kind)
	}
}

func TestPartnerOfSamples(t *testing.T) {
	forAllPairs(func(n impl.Network, from int, to int, routes []impl.Route) {
		for i := 0; i < len(routes); i += 1 + len(routes)/8 {
			for _, kind := range kinds {
				at := slices.IndexFunc(routes, func(r impl.Route) bool { return expectedDisjoint(n, routes[i], r, kind) })
				if at < 0 {
					check(t, impl.PartnerOf, in(n, routes[i], kind), out(impl.Route{}, false, true))
				} else {
					check(t, impl.PartnerOf, in(n, routes[i], kind), out(routes[at], true, true))
				}
			}
		}
	})
}

func TestCountPairsAndBestPair(t *testing.T) {
	n := diamond()
	check(t, impl.CountPairs, in(n, 0, 3, impl.DisjointFibers), out(3, true))
	check(t, impl.CountPairs, in(n, 0, 3, impl.DisjointRisks), out(2, true))
	check(t, impl.CountPairs, in(parallels(), 0, 2, impl.DisjointNodes), out(0, true))
	check(t, impl.CountPairs, in(parallels(), 0, 2, impl.DisjointFibers), out(18, true))
	check(t, impl.BestPair, in(n, 3, 0, impl.DisjointFibers), out(route(3, 3, 0), route(3, 4, 1), true, true))
	check(t, impl.PairLength, in(n, 3, 0, impl.DisjointFibers), out(60, true))
	// On ties the pair whose first route is less is the best one, and then that whose second is.
	check(t, impl.BestPair, in(parallels(), 1, 0, impl.DisjointNodes), out(route(1, 0), route(1, 1), true, true))
	tie := network("a b", [4]int{0, 1, 1}, [4]int{0, 1, 2, 1}, [4]int{0, 1, 2, 1}, [4]int{0, 1, 3})
	check(t, impl.BestPair, in(tie, 0, 1, impl.DisjointRisks), out(route(0, 0), route(0, 1), true, true))
	tie = network("a b", [4]int{0, 1, 1, 1}, [4]int{0, 1, 2, 1}, [4]int{0, 1, 3, 2}, [4]int{0, 1, 4, 2})
	check(t, impl.BestPair, in(tie, 0, 1, impl.DisjointRisks), out(route(0, 0), route(0, 2), true, true))
	// The best pair may use neither the shortest route nor its length.
	check(t, impl.BestPair, in(trap(), 0, 3, impl.DisjointNodes), out(route(0, 0, 3), route(0, 1, 4), true, true))
	check(t, impl.PairLength, in(trap(), 0, 3, impl.DisjointNodes), out(1000, true))
	for _, kind := range kinds {
		check(t, impl.CountPairs, in(parallels(), 0, 3, kind), out(0, true))
		check(t, impl.BestPair, in(parallels(), 0, 3, kind), out(impl.Route{}, impl.Route{}, false, true))
		check(t, impl.PairLength, in(parallels(), 0, 3, kind), out(0, true))
		check(t, impl.BestPair, in(network("a b", [4]int{0, 1, 1}), 0, 1, kind), out(impl.Route{}, impl.Route{}, false, true))
	}
}

func TestPairsOfSamples(t *testing.T) {
	forAllPairs(func(n impl.Network, from int, to int, routes []impl.Route) {
		for _, kind := range kinds {
			if from == to {
				continue
			}
			pairs := expectedPairs(n, routes, kind)
			check(t, impl.CountPairs, in(n, from, to, kind), out(len(pairs), true))
			if len(pairs) == 0 {
				check(t, impl.BestPair, in(n, from, to, kind), out(impl.Route{}, impl.Route{}, false, true))
				check(t, impl.PairLength, in(n, from, to, kind), out(0, true))
				check(t, impl.IsTrap, in(n, from, to, kind), out(false, true))
				continue
			}
			length := func(p pair) int { return expectedLength(n, p.a) + expectedLength(n, p.b) }
			best := slices.MinFunc(pairs, func(p pair, q pair) int { return length(p) - length(q) })
			check(t, impl.BestPair, in(n, from, to, kind), out(best.a, best.b, true, true))
			check(t, impl.PairLength, in(n, from, to, kind), out(length(best), true))
			hasPartner := slices.ContainsFunc(routes, func(r impl.Route) bool { return expectedDisjoint(n, routes[0], r, kind) })
			check(t, impl.IsTrap, in(n, from, to, kind), out(!hasPartner, true))
		}
	})
}

func TestIsTrap(t *testing.T) {
	for _, kind := range kinds {
		check(t, impl.IsTrap, in(trap(), 0, 3, kind), out(true, true))
		check(t, impl.IsTrap, in(trap(), 3, 0, kind), out(true, true))
		check(t, impl.IsTrap, in(trap(), 0, 1, kind), out(false, true))
		check(t, impl.IsTrap, in(diamond(), 0, 3, kind), out(false, true))
		check(t, impl.IsTrap, in(network("a b", [4]int{0, 1, 1}), 0, 1, kind), out(false, true))
		check(t, impl.IsTrap, in(network("a b"), 0, 1, kind), out(false, true))
	}
	// Only the risks make the shortest route a trap.
	n := network("a b", [4]int{0, 1, 10, 1}, [4]int{0, 1, 20, 1}, [4]int{0, 1, 30, 1})
	check(t, impl.IsTrap, in(n, 0, 1, impl.DisjointRisks), out(false, true))
	n = network("a b c", [4]int{0, 1, 5, 1}, [4]int{0, 2, 20, 1}, [4]int{0, 2, 30, 2}, [4]int{1, 2, 5, 2})
	check(t, impl.IsTrap, in(n, 0, 2, impl.DisjointRisks), out(true, true))
	check(t, impl.IsTrap, in(n, 0, 2, impl.DisjointFibers), out(false, true))
}

func TestPairsFail(t *testing.T) {
	for _, f := range []any{impl.CountPairs, impl.BestPair, impl.PairLength, impl.IsTrap} {
		for _, kind := range kinds {
			checkBadNodes(t, f, kind)
		}
		for _, kind := range badKinds {
			checkFails(t, f, diamond(), 0, 3, kind)
			checkFails(t, f, network("a b"), 0, 1, kind)
		}
	}
}

func TestUnprotectedPairs(t *testing.T) {
	check(t, impl.UnprotectedPairs, in(square(), impl.DisjointFibers), out([][]int{}, true))
	check(t, impl.UnprotectedPairs, in(square(), impl.DisjointRisks), out([][]int{{0, 3}, {1, 3}, {2, 3}}, true))
	check(t, impl.UnprotectedPairs, in(network("a b"), impl.DisjointNodes), out([][]int{{0, 1}}, true))
	check(t, impl.UnprotectedPairs, in(parallels(), impl.DisjointNodes), out([][]int{{0, 2}, {0, 3}, {1, 3}, {2, 3}}, true))
	for _, kind := range kinds {
		want := map[string][][]int{}
		forAllPairs(func(n impl.Network, from int, to int, routes []impl.Route) {
			text, _ := impl.FormatNetwork(n)
			if from < to && len(expectedPairs(n, routes, kind)) == 0 {
				want[text] = append(want[text], []int{from, to})
			}
		})
		for _, n := range append(sampleNetworks(), chain(3, 3, 3, 3, 2)) {
			text, _ := impl.FormatNetwork(n)
			check(t, impl.UnprotectedPairs, in(n, kind), out(want[text], true))
		}
		for _, n := range brokenNetworks() {
			checkFails(t, impl.UnprotectedPairs, n, kind)
		}
	}
	for _, kind := range badKinds {
		checkFails(t, impl.UnprotectedPairs, square(), kind)
		checkFails(t, impl.UnprotectedPairs, network("a b"), kind)
	}
}

func TestCommonRisks(t *testing.T) {
	n := square()
	check(t, impl.CommonRisks, in(n, route(0, 1), route(2, 3)), out([]int{0}, true))
	check(t, impl.CommonRisks, in(n, route(0, 0), route(1, 0)), out([]int{1}, true))
	check(t, impl.CommonRisks, in(n, route(0, 0, 2), route(0, 1, 3)), out([]int{}, true))
	check(t, impl.CommonRisks, in(n, route(0, 0, 2, 3), route(0, 1, 3, 2)), out([]int{0, 2}, true))
	check(t, impl.CommonRisks, in(n, route(3, 3, 2, 0), route(0, 0, 2)), out([]int{1, 2}, true))
	for _, n := range sampleNetworks() {
		routes := expectedRoutes(n)
		for i := 0; i < len(routes); i += 1 + len(routes)/20 {
			for k := 0; k < len(routes); k += 1 + len(routes)/20 {
				common := expectedRisks(n, routes[i], routes[k])
				check(t, impl.CommonRisks, in(n, routes[i], routes[k]), out(common, true))
				check(t, impl.RiskDisjoint, in(n, routes[i], routes[k]), out(len(common) == 0, true))
			}
		}
	}
	for _, r := range badRoutes() {
		checkFails(t, impl.CommonRisks, n, r, route(0, 0))
		checkFails(t, impl.CommonRisks, n, route(0, 0), r)
	}
	checkFails(t, impl.CommonRisks, impl.Network{}, route(0, 0), route(0, 0))
}
