package tests

import (
	"slices"
	"testing"

	"loop.example/g00897/impl"
)

// The tests of this file compare every function of chapter 6 with what the document states:
// ordinary inputs, the edge cases that the chapter names, and invalid inputs.

// expectedComponents gives both ends of every fiber that is left the smaller one of their numbers,
// until nothing changes.
func expectedComponents(n impl.Network, gone []int) []int {
	smallest := make([]int, len(n.Nodes))
	for i := range smallest {
		smallest[i] = i
	}
	for range n.Nodes {
		for i, f := range n.Fibers {
			if !slices.Contains(gone, i) {
				least := min(smallest[f.A], smallest[f.B])
				smallest[f.A], smallest[f.B] = least, least
			}
		}
	}
	return smallest
}

// separates reports whether two nodes are connected, but not without some fibers.
func separates(n impl.Network, a int, b int, gone []int) bool {
	before, after := expectedComponents(n, nil), expectedComponents(n, gone)
	return before[a] == before[b] && after[a] != after[b]
}

// separatesAny reports whether some fibers separate two of some nodes.
func separatesAny(n impl.Network, nodes []int, gone []int) bool {
	for _, a := range nodes {
		for _, b := range nodes {
			if separates(n, a, b, gone) {
				return true
			}
		}
	}
	return false
}

// listsBelow returns all strictly ascending lists of numbers below limit, the shorter ones first,
// and lists of the same length in lexicographic order.
func listsBelow(limit int) [][]int {
	lists := [][]int{{}}
	for k := 0; k < len(lists); k++ {
		first := 0
		if len(lists[k]) > 0 {
			first = lists[k][len(lists[k])-1] + 1
		}
		for x := first; x < limit; x++ {
			lists = append(lists, append(slices.Clone(lists[k]), x))
		}
	}
	return lists
}

// smallNetworks returns the samples with so few fibers that all sets of them can be tried.
func smallNetworks() []impl.Network {
	list := append(sampleNetworks(), randomNetworks(60, 5)...)
	return slices.DeleteFunc(list, func(n impl.Network) bool { return len(n.Fibers) > 8 })
}

func badSets() [][]int {
	return [][]int{{4}, {-1}, {0, 0}, {1, 0}, {3, 4}, {0, 1, 2, 3, 4}, {0, 2, 1}, {-1, 0}, {minInt}, {maxInt}, {0, maxInt}}
}

func TestComponentsOfAndIsConnected(t *testing.T) {
	check(t, impl.ComponentsOf, in(square(), []int{}), out([]int{0, 0, 0, 0}, true))
	check(t, impl.ComponentsOf, in(square(), []int{1, 3}), out([]int{0, 0, 0, 3}, true))
	check(t, impl.ComponentsOf, in(square(), []int{0, 3}), out([]int{0, 1, 1, 0}, true))
	check(t, impl.ComponentsOf, in(square(), []int{0, 1, 2, 3}), out([]int{0, 1, 2, 3}, true))
	check(t, impl.ComponentsOf, in(parallels(), []int{0, 1}), out([]int{0, 0, 0, 3}, true))
	check(t, impl.ComponentsOf, in(network("a b"), []int{}), out([]int{0, 1}, true))
	check(t, impl.IsConnected, in(square(), []int{2}), out(true, true))
	check(t, impl.IsConnected, in(square(), []int{1, 3}), out(false, true))
	check(t, impl.IsConnected, in(parallels(), []int{}), out(false, true))
	check(t, impl.IsConnected, in(network("a b"), []int{}), out(false, true))
	check(t, impl.IsConnected, in(chain(2, 2, 2, 2, 2, 2, 2), []int{0, 3, 5, 6, 9, 11, 13}), out(true, true))
	for _, n := range smallNetworks() {
		for _, gone := range listsBelow(len(n.Fibers)) {
			want := expectedComponents(n, gone)
			check(t, impl.ComponentsOf, in(n, gone), out(want, true))
			check(t, impl.IsConnected, in(n, gone), out(slices.Max(want) == 0, true))
		}
	}
	for _, gone := range badSets() {
		checkFails(t, impl.ComponentsOf, square(), gone)
		checkFails(t, impl.IsConnected, square(), gone)
	}
	for _, n := range brokenNetworks() {
		checkFails(t, impl.ComponentsOf, n, []int{})
		checkFails(t, impl.IsConnected, n, []int{})
	}
}

func TestBridges(t *testing.T) {
	check(t, impl.Bridges, in(square()), out([]int{}, true))
	check(t, impl.Bridges, in(network("a b")), out([]int{}, true))
	check(t, impl.Bridges, in(network("a b c", [4]int{0, 1, 1}, [4]int{1, 2, 1})), out([]int{0, 1}, true))
	// Parallel fibers are no bridges, and a fiber of a risk group may be one on its own.
	check(t, impl.Bridges, in(network("a b c", [4]int{0, 1, 1}, [4]int{0, 1, 1}, [4]int{1, 2, 1})), out([]int{2}, true))
	check(t, impl.Bridges, in(network("a b c d", [4]int{0, 1, 1, 1}, [4]int{2, 3, 1, 1})), out([]int{0, 1}, true))
	for _, n := range sampleNetworks() {
		var want []int
		for i, f := range n.Fibers {
			if separates(n, f.A, f.B, []int{i}) {
				want = append(want, i)
			}
		}
		check(t, impl.Bridges, in(n), out(want, true))
	}
	for _, n := range brokenNetworks() {
		checkFails(t, impl.Bridges, n)
	}
}

func TestCutNodes(t *testing.T) {
	check(t, impl.CutNodes, in(square()), out([]int{}, true))
	check(t, impl.CutNodes, in(network("a b c", [4]int{0, 1, 1}, [4]int{1, 2, 1})), out([]int{1}, true))
	check(t, impl.CutNodes, in(network("a b", [4]int{0, 1, 1})), out([]int{}, true))
	check(t, impl.CutNodes, in(parallels()), out([]int{1}, true))
	check(t, impl.CutNodes, in(network("a b c")), out([]int{}, true))
	check(t, impl.CutNodes, in(chain(1, 2, 1, 2)), out([]int{1, 2, 3}, true))
	for _, n := range append(sampleNetworks(), randomNetworks(100, 8)...) {
		var want []int
		for v := range n.Nodes {
			var others, ending []int
			for node := range n.Nodes {
				if node != v {
					others = append(others, node)
				}
			}
			for i, f := range n.Fibers {
				if f.A == v || f.B == v {
					ending = append(ending, i)
				}
			}
			if separatesAny(n, others, ending) {
				want = append(want, v)
			}
		}
		check(t, impl.CutNodes, in(n), out(want, true))
	}
	for _, n := range brokenNetworks() {
		checkFails(t, impl.CutNodes, n)
	}
}

func TestCriticalGroups(t *testing.T) {
	check(t, impl.CriticalGroups, in(square()), out([]int{0}, true))
	check(t, impl.CriticalGroups, in(network("a b")), out([]int{}, true))
	check(t, impl.CriticalGroups, in(parallels()), out([]int{}, true))
	check(t, impl.CriticalGroups, in(network("a b c", [4]int{0, 1, 1, 5}, [4]int{1, 2, 1}, [4]int{1, 2, 2, 5})), out([]int{0}, true))
	check(t, impl.CriticalGroups, in(network("a b c", [4]int{0, 1, 1}, [4]int{1, 2, 1, 5})), out([]int{0, 1}, true))
	// Nodes that are not connected at all do not make a group critical.
	check(t, impl.CriticalGroups, in(network("a b c d", [4]int{0, 1, 1, 2}, [4]int{0, 1, 1, 3})), out([]int{}, true))
	for _, n := range append(sampleNetworks(), randomNetworks(100, 8)...) {
		var want, nodes []int
		for node := range n.Nodes {
			nodes = append(nodes, node)
		}
		groups, _ := impl.RiskGroups(n)
		for i, group := range groups {
			if separatesAny(n, nodes, group) {
				want = append(want, i)
			}
		}
		check(t, impl.CriticalGroups, in(n), out(want, true))
	}
	for _, n := range brokenNetworks() {
		checkFails(t, impl.CriticalGroups, n)
	}
}

func TestFibersBetween(t *testing.T) {
	check(t, impl.FibersBetween, in(square(), []int{0, 1}), out([]int{1, 2}, true))
	check(t, impl.FibersBetween, in(square(), []int{}), out([]int{}, true))
	check(t, impl.FibersBetween, in(square(), []int{0, 1, 2, 3}), out([]int{}, true))
	check(t, impl.FibersBetween, in(parallels(), []int{1}), out([]int{0, 1, 2, 3, 4, 5}, true))
	check(t, impl.FibersBetween, in(network("a b"), []int{0}), out([]int{}, true))
	for _, n := range sampleNetworks() {
		for _, side := range listsBelow(len(n.Nodes)) {
			var want []int
			for i, f := range n.Fibers {
				if slices.Contains(side, f.A) && !slices.Contains(side, f.B) || slices.Contains(side, f.B) && !slices.Contains(side, f.A) {
					want = append(want, i)
				}
			}
			check(t, impl.FibersBetween, in(n, side), out(want, true))
		}
	}
	for _, side := range badSets() {
		checkFails(t, impl.FibersBetween, square(), side)
	}
	for _, n := range brokenNetworks() {
		checkFails(t, impl.FibersBetween, n, []int{})
	}
}

// checkFewest calls f, which must return the first list of sets that separate two nodes.
func checkFewest(t *testing.T, f any, n impl.Network, from int, to int, sets [][]int) {
	t.Helper()
	for _, list := range listsBelow(len(sets)) {
		var gone []int
		for _, i := range list {
			gone = append(gone, sets[i]...)
		}
		if after := expectedComponents(n, gone); after[from] != after[to] {
			check(t, f, in(n, from, to), out(list, true))
			return
		}
	}
	t.Errorf("%v: nothing separates %d and %d", n, from, to)
}

func singleFibers(n impl.Network) [][]int {
	var sets [][]int
	for i := range n.Fibers {
		sets = append(sets, []int{i})
	}
	return sets
}

func TestMinimumCutAndGroupCut(t *testing.T) {
	check(t, impl.MinimumCut, in(square(), 0, 3), out([]int{0, 1}, true))
	check(t, impl.MinimumCut, in(square(), 1, 2), out([]int{0, 2}, true))
	check(t, impl.MinimumCut, in(parallels(), 0, 2), out([]int{0, 1, 2}, true))
	check(t, impl.MinimumCut, in(parallels(), 2, 1), out([]int{3, 4, 5}, true))
	check(t, impl.GroupCut, in(square(), 0, 3), out([]int{0}, true))
	check(t, impl.GroupCut, in(square(), 0, 1), out([]int{0, 1}, true))
	check(t, impl.GroupCut, in(parallels(), 2, 0), out([]int{0, 4}, true))
	// Nodes that are not connected at all have the empty cut.
	check(t, impl.MinimumCut, in(parallels(), 3, 0), out([]int{}, true))
	check(t, impl.GroupCut, in(parallels(), 3, 0), out([]int{}, true))
	check(t, impl.MinimumCut, in(network("a b"), 0, 1), out([]int{}, true))
	check(t, impl.GroupCut, in(network("a b"), 1, 0), out([]int{}, true))
	for _, n := range smallNetworks() {
		groups, _ := impl.RiskGroups(n)
		for from := range n.Nodes {
			for to := range n.Nodes {
				if from != to {
					checkFewest(t, impl.MinimumCut, n, from, to, singleFibers(n))
					checkFewest(t, impl.GroupCut, n, from, to, groups)
				}
			}
		}
	}
	checkBadNodes(t, impl.MinimumCut)
	checkBadNodes(t, impl.GroupCut)
}

func TestCutsOfTheMostFibers(t *testing.T) {
	n, all := chain(impl.MaxFibers), listsBelow(impl.MaxFibers)
	for i := range n.Fibers {
		n.Fibers[i].Risk = 0
	}
	check(t, impl.MinimumCut, in(n, 0, 1), out(all[len(all)-1], true))
	check(t, impl.GroupCut, in(n, 1, 0), out(all[len(all)-1], true))
	check(t, impl.DisjointCount, in(n, 0, 1), out(impl.MaxFibers, true))
	checkFewest(t, impl.MinimumCut, largest(), 0, 3, singleFibers(largest()))
	checkFewest(t, impl.MinimumCut, largest(), 7, 5, singleFibers(largest()))
	groups, _ := impl.RiskGroups(largest())
	checkFewest(t, impl.GroupCut, largest(), 4, 3, groups)
	checkFewest(t, impl.GroupCut, largest(), 0, 5, groups)
}

// mostDisjoint returns the greatest number of routes of which no two share a fiber.
func mostDisjoint(routes []impl.Route) int {
	if len(routes) == 0 {
		return 0
	}
	first, rest := routes[0], routes[1:]
	without := mostDisjoint(rest)
	var apart []impl.Route
	for _, r := range rest {
		if !slices.ContainsFunc(r.Fibers, func(fiber int) bool { return slices.Contains(first.Fibers, fiber) }) {
			apart = append(apart, r)
		}
	}
	return max(without, 1+mostDisjoint(apart))
}

func TestDisjointCount(t *testing.T) {
	check(t, impl.DisjointCount, in(square(), 0, 2), out(2, true))
	check(t, impl.DisjointCount, in(parallels(), 0, 2), out(3, true))
	check(t, impl.DisjointCount, in(parallels(), 0, 3), out(0, true))
	check(t, impl.DisjointCount, in(network("a b"), 0, 1), out(0, true))
	check(t, impl.DisjointCount, in(network("a b", [4]int{0, 1, 1}), 1, 0), out(1, true))
	// The shortest route uses fibers of both routes that are disjoint.
	check(t, impl.DisjointCount, in(trap(), 0, 3), out(2, true))
	check(t, impl.DisjointCount, in(trap(), 3, 0), out(2, true))
	for _, n := range smallNetworks() {
		for from := range n.Nodes {
			for to := range n.Nodes {
				if from != to {
					check(t, impl.DisjointCount, in(n, from, to), out(mostDisjoint(expectedAll(n, from, to)), true))
				}
			}
		}
	}
	checkBadNodes(t, impl.DisjointCount)
}
