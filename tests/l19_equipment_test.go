package tests

import (
	"slices"
	"testing"

	"loop.example/g00897/impl"
)

// The tests of this file compare every function of chapter 19 with what the document states:
// ordinary inputs, the edge cases that the chapter names, and invalid inputs.

var badReaches = []int{0, -1, impl.MaxReach + 1, minInt, maxInt}

var badSpacings = []int{0, 49, 1001, -50, minInt, maxInt}

// bill builds a bill from kinds, nodes and counts in turn.
func bill(numbers ...int) []impl.Item {
	list := []impl.Item{}
	for i := 0; i < len(numbers); i += 3 {
		list = append(list, impl.Item{Kind: numbers[i], Node: numbers[i+1], Count: numbers[i+2]})
	}
	return list
}

// fullBill has an item of every kind at every node.
func fullBill(count int) []impl.Item {
	list := []impl.Item{}
	for kind := impl.ItemTransponder; kind <= impl.ItemPort; kind++ {
		for node := range impl.MaxNodes {
			list = append(list, impl.Item{Kind: kind, Node: node, Count: count})
		}
	}
	return list
}

// badBills returns lists of items that are no bills.
func badBills() [][]impl.Item {
	return [][]impl.Item{bill(0, 0, 1), bill(5, 0, 1), bill(-1, 0, 1), bill(minInt, 0, 1), bill(maxInt, 0, 1), bill(1, -1, 1), bill(1, 8, 1), bill(1, minInt, 1), bill(1, maxInt, 1), bill(1, 0, 0),
		bill(1, 0, -1), bill(1, 0, 1001), bill(1, 0, minInt), bill(1, 0, maxInt), bill(1, 0, 1, 1, 0, 1), bill(1, 1, 1, 1, 0, 1), bill(2, 0, 1, 1, 7, 1), bill(1, 0, 1, 2, 0, 1, 2, 0, 2),
		bill(1, 0, 1, 3, 4, 1, 2, 5, 1), bill(1, 7, 1, 2, 3, 0), append(fullBill(1), bill(4, 7, 1)...), append(fullBill(1), bill(5, 0, 1)...), make([]impl.Item, 1), make([]impl.Item, 33)}
}

// chainOf connects nodes in a row by fibers of some lengths.
func chainOf(lengths ...int) impl.Network {
	n := network("a b c d e f g h")
	n.Nodes = n.Nodes[:len(lengths)+1]
	for i, length := range lengths {
		n.Fibers = append(n.Fibers, impl.Fiber{A: i, B: i + 1, Length: length})
	}
	return n
}

// expectedRegenerators goes from node to node. It fails if a fiber is longer than the reach.
func expectedRegenerators(n impl.Network, r impl.Route, reach int) ([]int, bool) {
	nodes, used, last := expectedNodes(n, r), []int{}, 0
	for i := range r.Fibers {
		if n.Fibers[r.Fibers[i]].Length > reach {
			return nil, false
		}
		if expectedLength(n, route(nodes[last], r.Fibers[last:i+1]...)) > reach {
			used = append(used, nodes[i])
			last = i
		}
	}
	return used, true
}

func TestRegeneratorsFor(t *testing.T) {
	n, r := kite(), route(0, 0, 3, 4)
	check(t, impl.RegeneratorsFor, in(n, r, 300), out([]int{}, true))
	check(t, impl.RegeneratorsFor, in(n, r, 299), out([]int{2}, true))
	check(t, impl.RegeneratorsFor, in(n, r, 200), out([]int{2}, true))
	check(t, impl.RegeneratorsFor, in(n, r, 199), out([]int{1, 2}, true))
	check(t, impl.RegeneratorsFor, in(n, r, 100), out([]int{1, 2}, true))
	checkFails(t, impl.RegeneratorsFor, n, r, 99)
	// Only the fibers of the route matter.
	check(t, impl.RegeneratorsFor, in(n, route(0, 0), 100), out([]int{}, true))
	check(t, impl.RegeneratorsFor, in(n, route(0, 1), 300), out([]int{}, true))
	checkFails(t, impl.RegeneratorsFor, n, route(0, 1), 299)
	// The direction matters, and a regenerator may be needed before a long fiber.
	n = chainOf(30, 40, 50, 20, 60)
	check(t, impl.RegeneratorsFor, in(n, route(0, 0, 1, 2, 3, 4), 70), out([]int{2, 4}, true))
	check(t, impl.RegeneratorsFor, in(n, route(5, 4, 3, 2, 1, 0), 70), out([]int{4, 2}, true))
	check(t, impl.RegeneratorsFor, in(n, route(0, 0, 1, 2, 3, 4), 60), out([]int{1, 2, 3, 4}, true))
	check(t, impl.RegeneratorsFor, in(n, route(5, 4, 3, 2, 1, 0), 60), out([]int{4, 3, 2, 1}, true))
	check(t, impl.RegeneratorsFor, in(n, route(5, 4, 3, 2, 1, 0), 80), out([]int{3, 2}, true))
	// Reaches of 1 and MaxReach.
	check(t, impl.RegeneratorsFor, in(chainOf(1, 1, 1), route(0, 0, 1, 2), 1), out([]int{1, 2}, true))
	checkFails(t, impl.RegeneratorsFor, chainOf(1, 2, 1), route(0, 0, 1, 2), 1)
	check(t, impl.RegeneratorsFor, in(chainOf(5000, 5000, 5000, 5000), route(0, 0, 1, 2, 3), 20000), out([]int{}, true))
	check(t, impl.RegeneratorsFor, in(chainOf(5000, 5000, 5000, 5000, 1), route(0, 0, 1, 2, 3, 4), 20000), out([]int{4}, true))
	for _, reach := range badReaches {
		checkFails(t, impl.RegeneratorsFor, n, route(0, 0), reach)
		checkFails(t, impl.RegeneratorsFor, chainOf(1), route(0, 0), reach)
	}
	for _, r := range badRoutes() {
		checkFails(t, impl.RegeneratorsFor, square(), r, 5000)
	}
	for _, n := range brokenNetworks() {
		checkFails(t, impl.RegeneratorsFor, n, route(0, 0), 5000)
	}
}

func TestSegmentLengths(t *testing.T) {
	n, r := chainOf(30, 40, 50, 20, 60), route(0, 0, 1, 2, 3, 4)
	check(t, impl.SegmentLengths, in(n, r, []int{}), out([]int{200}, true))
	check(t, impl.SegmentLengths, in(n, r, []int{1}), out([]int{30, 170}, true))
	check(t, impl.SegmentLengths, in(n, r, []int{4}), out([]int{140, 60}, true))
	check(t, impl.SegmentLengths, in(n, r, []int{2, 3}), out([]int{70, 50, 80}, true))
	check(t, impl.SegmentLengths, in(n, r, []int{1, 2, 3, 4}), out([]int{30, 40, 50, 20, 60}, true))
	check(t, impl.SegmentLengths, in(n, route(5, 4, 3, 2, 1, 0), []int{3, 1}), out([]int{80, 90, 30}, true))
	check(t, impl.SegmentLengths, in(n, route(0, 0), []int{}), out([]int{30}, true))
	// Nodes that are not inner nodes of the route, repeated, or out of order.
	for _, nodes := range [][]int{{0}, {5}, {-1}, {6}, {1, 5}, {0, 1}, {2, 2}, {1, 1}, {2, 1}, {1, 3, 2}, {1, 2, 3, 4, 5}, {1, 2, 3, 4, 4}, {minInt}, {maxInt}, {0, 1, 2, 3, 4, 5}, {7}} {
		checkFails(t, impl.SegmentLengths, n, r, nodes)
	}
	checkFails(t, impl.SegmentLengths, n, route(5, 4, 3, 2, 1, 0), []int{1, 3})
	checkFails(t, impl.SegmentLengths, n, route(0, 0), []int{0})
	checkFails(t, impl.SegmentLengths, n, route(0, 0), []int{1})
	checkFails(t, impl.SegmentLengths, kite(), route(0, 0, 3), []int{3})
	for _, r := range badRoutes() {
		checkFails(t, impl.SegmentLengths, square(), r, []int{})
	}
	for _, n := range brokenNetworks() {
		checkFails(t, impl.SegmentLengths, n, route(0, 0), []int{})
	}
}

func TestRegeneratorsOfSamples(t *testing.T) {
	next := numbers(19)
	for _, n := range append(sampleNetworks(), kite(), chainOf(30, 40, 50, 20, 60)) {
		routes := expectedRoutes(n)
		for i := 0; i < len(routes); i += 1 + len(routes)/40 {
			longest := 0
			for _, fiber := range routes[i].Fibers {
				longest = max(longest, n.Fibers[fiber].Length)
			}
			for _, reach := range []int{max(1, longest-1), longest, longest + next(longest), 2*longest + next(longest), impl.MaxReach} {
				used, ok := expectedRegenerators(n, routes[i], reach)
				if !ok {
					checkFails(t, impl.RegeneratorsFor, n, routes[i], reach)
					continue
				}
				check(t, impl.RegeneratorsFor, in(n, routes[i], reach), out(used, true))
			}
			nodes := expectedNodes(n, routes[i])
			inner := slices.DeleteFunc(nodes[1:len(nodes)-1], func(int) bool { return next(2) == 0 })
			check(t, impl.SegmentLengths, in(n, routes[i], inner), out(expectedSegments(n, routes[i], inner), true))
		}
	}
}

// expectedSegments cuts a route at some of its inner nodes.
func expectedSegments(n impl.Network, r impl.Route, inner []int) []int {
	nodes, lengths, last := expectedNodes(n, r), []int{}, 0
	for i, node := range nodes {
		if i == len(nodes)-1 || slices.Contains(inner, node) {
			lengths = append(lengths, expectedLength(n, route(nodes[last], r.Fibers[last:i]...)))
			last = i
		}
	}
	return lengths
}

const far = 1 << 40

// expectedDistances returns the distances of all nodes, far if they are not connected.
func expectedDistances(n impl.Network) [][]int {
	table := make([][]int, len(n.Nodes))
	for a := range table {
		table[a] = slices.Repeat([]int{far}, len(n.Nodes))
		table[a][a] = 0
	}
	for _, f := range n.Fibers {
		table[f.A][f.B] = min(table[f.A][f.B], f.Length)
		table[f.B][f.A] = table[f.A][f.B]
	}
	for k := range table {
		for a := range table {
			for b := range table {
				table[a][b] = min(table[a][b], table[a][k]+table[k][b])
			}
		}
	}
	return table
}

// expectedSites reports whether sites connect all nodes that are connected: it joins lists of nodes
// at every site.
func expectedSites(n impl.Network, sites []int, reach int) bool {
	distances := expectedDistances(n)
	leads := make([][]bool, len(distances))
	for a := range leads {
		for b := range distances {
			leads[a] = append(leads[a], distances[a][b] <= reach)
		}
	}
	for _, k := range sites {
		for a := range leads {
			for b := range leads {
				leads[a][b] = leads[a][b] || leads[a][k] && leads[k][b]
			}
		}
	}
	for a := range leads {
		for b := range leads {
			if distances[a][b] < far && !leads[a][b] {
				return false
			}
		}
	}
	return true
}

func TestSitesConnect(t *testing.T) {
	n := chainOf(30, 40, 50)
	yes, no := out(true, true), out(false, true)
	check(t, impl.SitesConnect, in(n, []int{1, 2}, 50), yes)
	check(t, impl.SitesConnect, in(n, []int{1, 2}, 49), no)
	check(t, impl.SitesConnect, in(n, []int{2}, 70), yes)
	check(t, impl.SitesConnect, in(n, []int{1}, 70), no)
	check(t, impl.SitesConnect, in(n, []int{1}, 90), yes)
	check(t, impl.SitesConnect, in(n, []int{2}, 69), no)
	check(t, impl.SitesConnect, in(n, []int{}, 120), yes)
	check(t, impl.SitesConnect, in(n, []int{}, 119), no)
	// Sites at the ends of the row do not help, but do not harm either.
	check(t, impl.SitesConnect, in(n, []int{0, 3}, 119), no)
	check(t, impl.SitesConnect, in(n, []int{0, 2, 3}, 70), yes)
	check(t, impl.SitesConnect, in(n, []int{0, 1, 2, 3}, 49), no)
	// A fiber that is longer than the reach has a way around, of as much or more.
	check(t, impl.SitesConnect, in(kite(), []int{}, 200), yes)
	check(t, impl.SitesConnect, in(kite(), []int{}, 199), no)
	check(t, impl.SitesConnect, in(kite(), []int{0, 1}, 100), yes)
	check(t, impl.SitesConnect, in(kite(), []int{0, 2}, 100), no)
	check(t, impl.SitesConnect, in(kite(), []int{0}, 100), no)
	check(t, impl.SitesConnect, in(kite(), []int{0, 1, 2, 3}, 99), no)
	// Networks that are not connected, and without fibers.
	check(t, impl.SitesConnect, in(parallels(), []int{}, 119), no)
	check(t, impl.SitesConnect, in(parallels(), []int{1}, 119), yes)
	check(t, impl.SitesConnect, in(parallels(), []int{3}, 120), yes)
	check(t, impl.SitesConnect, in(network("a b"), []int{}, 1), yes)
	check(t, impl.SitesConnect, in(network("a b"), []int{0, 1}, impl.MaxReach), yes)
	check(t, impl.SitesConnect, in(chainOf(1, 1), []int{1}, 1), yes)
	check(t, impl.SitesConnect, in(chainOf(5000, 5000, 5000, 5000), []int{}, impl.MaxReach), yes)
	check(t, impl.SitesConnect, in(chainOf(5000, 5000, 5000, 5000, 1), []int{}, impl.MaxReach), no)
	for _, sites := range [][]int{{4}, {-1}, {0, 0}, {1, 0}, {0, 1, 2, 3, 4}, {minInt}, {0, maxInt}} {
		checkFails(t, impl.SitesConnect, n, sites, 120)
	}
	for _, reach := range badReaches {
		checkFails(t, impl.SitesConnect, n, []int{}, reach)
		checkFails(t, impl.FewestSites, n, reach)
		checkFails(t, impl.FewestSites, network("a b"), reach)
	}
	for _, n := range brokenNetworks() {
		checkFails(t, impl.SitesConnect, n, []int{}, 100)
		checkFails(t, impl.FewestSites, n, 100)
	}
}

func TestFewestSites(t *testing.T) {
	n := chainOf(30, 40, 50)
	none := out([]int{}, false, true)
	check(t, impl.FewestSites, in(n, 120), out([]int{}, true, true))
	check(t, impl.FewestSites, in(n, 90), out([]int{1}, true, true))
	check(t, impl.FewestSites, in(n, 70), out([]int{2}, true, true))
	check(t, impl.FewestSites, in(n, 69), out([]int{1, 2}, true, true))
	check(t, impl.FewestSites, in(n, 50), out([]int{1, 2}, true, true))
	check(t, impl.FewestSites, in(n, 49), none)
	check(t, impl.FewestSites, in(n, 1), none)
	check(t, impl.FewestSites, in(kite(), 100), out([]int{0, 1}, true, true))
	check(t, impl.FewestSites, in(kite(), 200), out([]int{}, true, true))
	check(t, impl.FewestSites, in(parallels(), 70), out([]int{1}, true, true))
	check(t, impl.FewestSites, in(parallels(), 69), none)
	check(t, impl.FewestSites, in(network("a b"), 1), out([]int{}, true, true))
	check(t, impl.FewestSites, in(chainOf(7, 7, 7, 7, 7, 7, 7), 7), out([]int{1, 2, 3, 4, 5, 6}, true, true))
	check(t, impl.FewestSites, in(chainOf(7, 7, 7, 7, 7, 7, 7), 14), out([]int{1, 3, 5}, true, true))
	check(t, impl.FewestSites, in(chainOf(7, 7, 7, 7, 7, 7, 7), 6), none)
}

func TestSitesOfSamples(t *testing.T) {
	next := numbers(191)
	found, impossible := map[int]int{}, 0
	for _, n := range append(append(sampleNetworks(), kite(), hub(), pentagon()), randomNetworks(60, 8)...) {
		lists := listsBelow(len(n.Nodes))
		for range 6 {
			reach := 1 + next(40)
			if len(n.Fibers) > 0 {
				reach = min(impl.MaxReach, max(1, n.Fibers[next(len(n.Fibers))].Length*(1+next(3))-next(2)))
			}
			for range 5 {
				sites := lists[next(len(lists))]
				check(t, impl.SitesConnect, in(n, sites, reach), out(expectedSites(n, sites, reach), true))
			}
			best := slices.IndexFunc(lists, func(sites []int) bool { return expectedSites(n, sites, reach) })
			if best < 0 {
				check(t, impl.FewestSites, in(n, reach), out([]int{}, false, true))
				impossible++
			} else {
				check(t, impl.FewestSites, in(n, reach), out(lists[best], true, true))
				found[len(lists[best])]++
			}
		}
	}
	if impossible < 20 || found[1] < 20 || found[2] < 10 || found[3] < 1 {
		t.Errorf("there are no sites %d times, and so many of them: %v", impossible, found)
	}
}

// expectedBill counts every piece of equipment of a valid plan. It fails if a fiber of a light is
// longer than the reach.
func expectedBill(p impl.Plan, reach int, spacing int) (map[[2]int]int, bool) {
	counts := map[[2]int]int{}
	used := map[int]bool{}
	for _, x := range p.Lights {
		nodes := expectedNodes(p.Network, x.Route)
		regenerators, ok := expectedRegenerators(p.Network, x.Route, reach)
		if !ok {
			return nil, false
		}
		counts[[2]int{impl.ItemTransponder, nodes[0]}]++
		counts[[2]int{impl.ItemTransponder, nodes[len(nodes)-1]}]++
		for _, node := range regenerators {
			counts[[2]int{impl.ItemRegenerator, node}]++
		}
		for _, fiber := range x.Route.Fibers {
			used[fiber] = true
		}
	}
	for fiber := range used {
		f := p.Network.Fibers[fiber]
		counts[[2]int{impl.ItemPort, f.A}]++
		counts[[2]int{impl.ItemPort, f.B}]++
		for at := spacing; at < f.Length; at += spacing {
			counts[[2]int{impl.ItemAmplifier, f.A}]++
		}
	}
	return counts, true
}

// billFrom returns the bill with some counts. It fails if one of them is too great.
func billFrom(counts map[[2]int]int) ([]impl.Item, bool) {
	list, ok := bill(), true
	for _, x := range fullBill(0) {
		if x.Count = counts[[2]int{x.Kind, x.Node}]; x.Count > 0 {
			list = append(list, x)
			ok = ok && x.Count <= 1000
		}
	}
	return list, ok
}

func TestBillOf(t *testing.T) {
	p := plan(kite(), light(1, route(0, 0, 3, 4), 0, 1))
	check(t, impl.BillOf, in(p, 200, 60), out(bill(1, 0, 1, 1, 3, 1, 2, 2, 1, 3, 0, 1, 3, 1, 1, 3, 2, 1, 4, 0, 1, 4, 1, 2, 4, 2, 2, 4, 3, 1), true))
	check(t, impl.BillOf, in(p, 300, 100), out(bill(1, 0, 1, 1, 3, 1, 4, 0, 1, 4, 1, 2, 4, 2, 2, 4, 3, 1), true))
	check(t, impl.BillOf, in(p, 300, 99), out(bill(1, 0, 1, 1, 3, 1, 3, 0, 1, 3, 1, 1, 3, 2, 1, 4, 0, 1, 4, 1, 2, 4, 2, 2, 4, 3, 1), true))
	check(t, impl.BillOf, in(p, 300, 50), out(bill(1, 0, 1, 1, 3, 1, 3, 0, 1, 3, 1, 1, 3, 2, 1, 4, 0, 1, 4, 1, 2, 4, 2, 2, 4, 3, 1), true))
	check(t, impl.BillOf, in(p, 300, 1000), out(bill(1, 0, 1, 1, 3, 1, 4, 0, 1, 4, 1, 2, 4, 2, 2, 4, 3, 1), true))
	checkFails(t, impl.BillOf, p, 99, 60)
	// Two lights over one fiber need its ports and amplifiers only once.
	p = plan(kite(), light(1, route(0, 1), 0, 1), light(2, route(2, 1), 1, 1))
	check(t, impl.BillOf, in(p, 300, 100), out(bill(1, 0, 2, 1, 2, 2, 3, 0, 2, 4, 0, 1, 4, 2, 1), true))
	check(t, impl.BillOf, in(p, 300, 150), out(bill(1, 0, 2, 1, 2, 2, 3, 0, 1, 4, 0, 1, 4, 2, 1), true))
	check(t, impl.BillOf, in(p, 300, 299), out(bill(1, 0, 2, 1, 2, 2, 3, 0, 1, 4, 0, 1, 4, 2, 1), true))
	check(t, impl.BillOf, in(p, 300, 300), out(bill(1, 0, 2, 1, 2, 2, 4, 0, 1, 4, 2, 1), true))
	checkFails(t, impl.BillOf, p, 299, 100)
	// Plans without lights.
	check(t, impl.BillOf, in(plan(kite()), 1, 50), out(bill(), true))
	check(t, impl.BillOf, in(plan(network("a b")), impl.MaxReach, 1000), out(bill(), true))
	for _, spacing := range badSpacings {
		checkFails(t, impl.BillOf, p, 300, spacing)
		checkFails(t, impl.BillOf, plan(kite()), 300, spacing)
	}
	for _, reach := range badReaches {
		checkFails(t, impl.BillOf, p, reach, 60)
		checkFails(t, impl.BillOf, plan(kite()), reach, 60)
	}
	for _, p := range brokenPlans() {
		checkFails(t, impl.BillOf, p, impl.MaxReach, 60)
	}
}

// TestBillOfTooManyAmplifiers has fibers with 99 amplifiers each at one node.
func TestBillOfTooManyAmplifiers(t *testing.T) {
	p := plan(bundles(14, 0, 0, 0))
	for i := range p.Network.Fibers {
		p.Network.Fibers[i].Length = impl.MaxLength
	}
	for i := range 11 {
		if i == 10 {
			check(t, impl.BillOf, in(p, 5000, 50), out(bill(1, 0, 10, 1, 1, 10, 3, 0, 990, 4, 0, 10, 4, 1, 10), true))
		}
		p.Lights = append(p.Lights, light(i+1, route(i%2, i), 0, 24))
	}
	checkFails(t, impl.BillOf, p, 5000, 50)
	check(t, impl.BillOf, in(p, 5000, 55), out(bill(1, 0, 11, 1, 1, 11, 3, 0, 990, 4, 0, 11, 4, 1, 11), true))
	p.Network.Fibers[0].Length = 550
	check(t, impl.BillOf, in(p, 5000, 50), out(bill(1, 0, 11, 1, 1, 11, 3, 0, 1000, 4, 0, 11, 4, 1, 11), true))
	p.Network.Fibers[0].Length = 551
	checkFails(t, impl.BillOf, p, 5000, 50)
}

func TestBillOfSamples(t *testing.T) {
	next := numbers(192)
	for _, p := range allPlans() {
		for range 4 {
			reach, spacing := []int{10, 300, 5000, 9000, impl.MaxReach}[next(5)], 50+next(951)
			counts, ok := expectedBill(p, reach, spacing)
			if want, fits := billFrom(counts); ok && fits {
				check(t, impl.BillOf, in(p, reach, spacing), out(want, true))
			} else {
				checkFails(t, impl.BillOf, p, reach, spacing)
			}
		}
	}
}

// randomBill returns a bill with some of all items.
func randomBill(next func(limit int) int) []impl.Item {
	count := 1 + next(700)
	return slices.DeleteFunc(fullBill(count), func(impl.Item) bool { return next(3) > 0 })
}

func TestMergeBillsAndMissingItems(t *testing.T) {
	a, b := bill(1, 0, 1, 1, 3, 1, 4, 7, 5), bill(1, 0, 2, 2, 3, 1, 4, 7, 6)
	check(t, impl.MergeBills, in(a, b), out(bill(1, 0, 3, 1, 3, 1, 2, 3, 1, 4, 7, 11), true))
	check(t, impl.MissingItems, in(a, b), out(bill(1, 3, 1), true))
	check(t, impl.MissingItems, in(b, a), out(bill(1, 0, 1, 2, 3, 1, 4, 7, 1), true))
	check(t, impl.MissingItems, in(a, a), out(bill(), true))
	check(t, impl.MissingItems, in(bill(), a), out(bill(), true))
	check(t, impl.MissingItems, in(a, bill()), out(a, true))
	check(t, impl.MergeBills, in(a, bill()), out(a, true))
	check(t, impl.MergeBills, in(bill(), bill()), out(bill(), true))
	// Counts of 1 and 1000, and sums above.
	check(t, impl.MergeBills, in(bill(3, 3, 999), bill(3, 3, 1)), out(bill(3, 3, 1000), true))
	checkFails(t, impl.MergeBills, bill(3, 3, 1000), bill(3, 3, 1))
	checkFails(t, impl.MergeBills, bill(1, 1, 1, 3, 3, 501), bill(2, 2, 1, 3, 3, 500))
	check(t, impl.MissingItems, in(bill(3, 3, 1000), bill(3, 3, 999)), out(bill(3, 3, 1), true))
	check(t, impl.MissingItems, in(bill(3, 3, 1), bill(3, 3, 1000)), out(bill(), true))
	// As many items as possible.
	check(t, impl.MergeBills, in(fullBill(1), fullBill(999)), out(fullBill(1000), true))
	check(t, impl.MissingItems, in(fullBill(1000), fullBill(1)), out(fullBill(999), true))
	check(t, impl.MergeBills, in(fullBill(7)[:16], fullBill(7)[16:]), out(fullBill(7), true))
	if len(fullBill(1)) != impl.MaxItems {
		t.Errorf("%d items", len(fullBill(1)))
	}
	for _, list := range badBills() {
		for _, f := range []any{impl.MergeBills, impl.MissingItems} {
			checkFails(t, f, list, bill(1, 0, 1))
			checkFails(t, f, bill(1, 0, 1), list)
			checkFails(t, f, list, bill())
			checkFails(t, f, bill(), list)
		}
	}
	next := numbers(193)
	for range 100 {
		a, b := randomBill(next), randomBill(next)
		sums, missing := map[[2]int]int{}, map[[2]int]int{}
		for _, x := range a {
			sums[[2]int{x.Kind, x.Node}], missing[[2]int{x.Kind, x.Node}] = x.Count, x.Count
		}
		for _, x := range b {
			sums[[2]int{x.Kind, x.Node}] += x.Count
			missing[[2]int{x.Kind, x.Node}] -= x.Count
		}
		left, _ := billFrom(missing)
		check(t, impl.MissingItems, in(a, b), out(left, true))
		if sum, ok := billFrom(sums); ok {
			check(t, impl.MergeBills, in(a, b), out(sum, true))
		} else {
			checkFails(t, impl.MergeBills, a, b)
		}
	}
}

func TestCostOf(t *testing.T) {
	list := bill(1, 0, 1, 1, 3, 1, 2, 2, 1, 3, 0, 1, 3, 1, 1, 3, 2, 1, 4, 0, 1, 4, 1, 2, 4, 2, 2, 4, 3, 1)
	check(t, impl.CostOf, in(list, []int{10, 20, 5, 1}), out(61, true))
	check(t, impl.CostOf, in(list, []int{0, 0, 0, 0}), out(0, true))
	check(t, impl.CostOf, in(list, []int{0, 0, 0, 100000}), out(600000, true))
	check(t, impl.CostOf, in(bill(), []int{1, 2, 3, 4}), out(0, true))
	check(t, impl.CostOf, in(fullBill(1000), []int{100000, 100000, 100000, 100000}), out(3200000000, true))
	for kind := impl.ItemTransponder; kind <= impl.ItemPort; kind++ {
		check(t, impl.CostOf, in(bill(kind, 7, 3), []int{2, 30, 400, 5000}), out([]int{6, 90, 1200, 15000}[kind-1], true))
	}
	for _, prices := range [][]int{nil, {1}, {1, 2, 3}, {1, 2, 3, 4, 5}, {-1, 0, 0, 0}, {0, 0, 0, -1}, {100001, 0, 0, 0}, {0, 0, 100001, 0}, {0, minInt, 0, 0}, {0, 0, 0, maxInt}} {
		checkFails(t, impl.CostOf, list, prices)
		checkFails(t, impl.CostOf, bill(), prices)
	}
	for _, list := range badBills() {
		checkFails(t, impl.CostOf, list, []int{1, 1, 1, 1})
	}
}
