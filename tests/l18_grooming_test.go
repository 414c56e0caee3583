package tests

import (
	"slices"
	"testing"

	"loop.example/g00897/impl"
)

// The tests of this file compare every function of chapter 18 with what the document states:
// ordinary inputs, the edge cases that the chapter names, and invalid inputs.

func tributary(from int, to int, rate int) impl.Tributary {
	return impl.Tributary{From: from, To: to, Rate: rate}
}

func link(a int, b int, capacity int) impl.Link { return impl.Link{A: a, B: b, Capacity: capacity} }

// badTributaries returns tributaries that are not valid for three nodes.
func badTributaries() []impl.Tributary {
	return []impl.Tributary{{}, tributary(0, 0, 5), tributary(2, 2, 5), tributary(0, 3, 5), tributary(3, 0, 5), tributary(-1, 0, 5), tributary(0, -1, 5), tributary(-1, -1, 5),
		tributary(minInt, 0, 5), tributary(0, maxInt, 5), tributary(0, 1, 0), tributary(0, 1, -1), tributary(0, 1, 1001), tributary(0, 1, minInt), tributary(0, 1, maxInt)}
}

// badLinks returns links that are not valid for three nodes.
func badLinks() []impl.Link {
	return []impl.Link{{}, link(0, 0, 5), link(1, 1, 5), link(0, 3, 5), link(3, 0, 5), link(-1, 0, 5), link(0, -1, 5), link(minInt, 0, 5), link(0, maxInt, 5), link(3, 3, 5),
		link(0, 1, -1), link(0, 1, 10001), link(0, 1, minInt), link(0, 1, maxInt)}
}

var badNodeCounts = []int{0, 1, -1, 9, minInt, maxInt}

var badCapacities = []int{0, -1, 10001, minInt, maxInt}

func TestIsValidTributaries(t *testing.T) {
	list := []impl.Tributary{tributary(0, 2, 6), tributary(2, 0, 5), tributary(1, 2, 3)}
	for nodes := -1; nodes <= 10; nodes++ {
		check(t, impl.IsValidTributaries, in(list, nodes), out(nodes >= 3 && nodes <= impl.MaxNodes))
		check(t, impl.IsValidTributaries, in([]impl.Tributary{}, nodes), out(nodes >= 2 && nodes <= impl.MaxNodes))
	}
	for _, nodes := range badNodeCounts {
		check(t, impl.IsValidTributaries, in(list, nodes), out(false))
	}
	for _, rate := range []int{0, 1, 2, 999, impl.MaxRate, impl.MaxRate + 1} {
		check(t, impl.IsValidTributaries, in([]impl.Tributary{tributary(7, 0, rate)}, 8), out(rate >= 1 && rate <= impl.MaxRate))
	}
	for _, x := range badTributaries() {
		check(t, impl.IsValidTributaries, in([]impl.Tributary{x}, 3), out(false))
		check(t, impl.IsValidTributaries, in([]impl.Tributary{tributary(0, 1, 1), x, tributary(0, 1, 1)}, 3), out(false))
	}
	var many []impl.Tributary
	for count := range impl.MaxTributaries + 3 {
		check(t, impl.IsValidTributaries, in(many, 2), out(count <= impl.MaxTributaries))
		many = append(many, tributary(1, 0, 1000))
	}
}

// expectedPack puts rates in an order into the first units that have room, and returns the number of
// the unit of each.
func expectedPack(rates []int, capacity int, order []int) []int {
	units := make([]int, len(rates))
	room := slices.Repeat([]int{capacity}, len(rates))
	for _, i := range order {
		units[i] = slices.IndexFunc(room, func(left int) bool { return left >= rates[i] })
		room[units[i]] -= rates[i]
	}
	return units
}

// descending returns the indices of rates, the greater rates first, and equal ones in their order.
func descending(rates []int) []int {
	order := upTo(len(rates))
	slices.SortFunc(order, func(i int, k int) int { return (rates[k]-rates[i])*100 + i - k })
	return order
}

// expectedFewest tries all ways to put the rates one after the other into units that have room.
func expectedFewest(rates []int, capacity int) int {
	best := len(rates)
	var put func(i int, loads []int)
	put = func(i int, loads []int) {
		if i == len(rates) {
			best = min(best, len(loads))
			return
		}
		for k := range loads {
			if loads[k]+rates[i] <= capacity {
				loads[k] += rates[i]
				put(i+1, loads)
				loads[k] -= rates[i]
			}
		}
		if len(loads)+1 < best {
			put(i+1, append(loads, rates[i]))
		}
	}
	put(0, nil)
	return best
}

func TestPacking(t *testing.T) {
	check(t, impl.PackInOrder, in([]int{6, 5, 5, 4}, 10), out([]int{0, 1, 1, 0}, true))
	check(t, impl.PackDescending, in([]int{4, 6, 5, 5}, 10), out([]int{0, 0, 1, 1}, true))
	check(t, impl.PackInOrder, in([]int{4, 6, 5, 5}, 10), out([]int{0, 0, 1, 1}, true))
	check(t, impl.PackInOrder, in([]int{4, 4, 6, 6}, 10), out([]int{0, 0, 1, 2}, true))
	check(t, impl.PackDescending, in([]int{4, 4, 6, 6}, 10), out([]int{0, 1, 0, 1}, true))
	check(t, impl.FewestUnits, in([]int{6, 5, 5, 4}, 10), out(2, true))
	check(t, impl.FewestUnits, in([]int{4, 4, 6, 6}, 10), out(2, true))
	// Rates that fill a unit exactly, one by one or together, and one more than that.
	check(t, impl.PackInOrder, in([]int{10, 10, 3, 7, 1}, 10), out([]int{0, 1, 2, 2, 3}, true))
	check(t, impl.PackInOrder, in([]int{3, 8, 7}, 10), out([]int{0, 1, 0}, true))
	check(t, impl.PackInOrder, in([]int{3, 8, 8, 2}, 10), out([]int{0, 1, 2, 0}, true))
	check(t, impl.FewestUnits, in([]int{3, 8, 7}, 10), out(2, true))
	check(t, impl.FewestUnits, in([]int{3, 8, 8}, 10), out(3, true))
	// Descending order does not always need the fewest units.
	rates := []int{6, 6, 5, 5, 5, 4, 4, 4, 3, 3}
	check(t, impl.PackDescending, in(rates, 15), out([]int{0, 0, 1, 1, 1, 2, 2, 2, 0, 2}, true))
	check(t, impl.FewestUnits, in(rates, 15), out(3, true))
	check(t, impl.PackDescending, in([]int{5, 5, 4, 4, 3, 3}, 12), out([]int{0, 0, 1, 1, 1, 2}, true))
	check(t, impl.FewestUnits, in([]int{5, 5, 4, 4, 3, 3}, 12), out(2, true))
	// Capacities of 1 and 10000, and no rates.
	check(t, impl.PackInOrder, in([]int{1, 1, 1}, 1), out([]int{0, 1, 2}, true))
	check(t, impl.FewestUnits, in([]int{1, 1, 1}, 1), out(3, true))
	check(t, impl.PackDescending, in([]int{5000, 10000, 5000, 1}, 10000), out([]int{1, 0, 1, 2}, true))
	check(t, impl.FewestUnits, in([]int{5000, 10000, 5000, 1}, 10000), out(3, true))
	for _, capacity := range []int{1, 7, 10000} {
		check(t, impl.PackInOrder, in([]int{}, capacity), out([]int{}, true))
		check(t, impl.PackDescending, in([]int{}, capacity), out([]int{}, true))
		check(t, impl.FewestUnits, in([]int{}, capacity), out(0, true))
	}
}

func TestPackingLimits(t *testing.T) {
	for count := range impl.MaxTributaries + 2 {
		rates := slices.Repeat([]int{6}, count)
		for _, f := range []any{impl.PackInOrder, impl.PackDescending} {
			if count <= impl.MaxTributaries {
				check(t, f, in(rates, 10), out(upTo(count), true))
			} else {
				checkFails(t, f, rates, 10)
			}
		}
		if count <= impl.MaxPacked {
			check(t, impl.FewestUnits, in(rates, 10), out(count, true))
			check(t, impl.FewestUnits, in(rates, 12), out((count+1)/2, true))
		} else {
			checkFails(t, impl.FewestUnits, rates, 10)
		}
	}
	for _, f := range []any{impl.PackInOrder, impl.PackDescending, impl.FewestUnits} {
		for _, capacity := range badCapacities {
			checkFails(t, f, []int{}, capacity)
			checkFails(t, f, []int{1}, capacity)
		}
		for _, rate := range []int{0, -1, 11, 1001, minInt, maxInt} {
			checkFails(t, f, []int{rate}, 10)
			checkFails(t, f, []int{1, rate, 10}, 10)
		}
	}
}

func TestPackingOfSamples(t *testing.T) {
	next := numbers(18)
	better := 0
	for range 400 {
		capacity, rates := []int{7, 12, 20, 60, 10000}[next(5)], []int{}
		for range next(impl.MaxTributaries + 1) {
			rates = append(rates, 1+next(capacity)>>next(2))
		}
		check(t, impl.PackInOrder, in(rates, capacity), out(expectedPack(rates, capacity, upTo(len(rates))), true))
		packed := expectedPack(rates, capacity, descending(rates))
		check(t, impl.PackDescending, in(rates, capacity), out(packed, true))
		if len(rates) > impl.MaxPacked {
			checkFails(t, impl.FewestUnits, rates, capacity)
			continue
		}
		fewest := expectedFewest(rates, capacity)
		check(t, impl.FewestUnits, in(rates, capacity), out(fewest, true))
		if len(rates) > 0 && fewest < slices.Max(packed)+1 {
			better++
		}
	}
	if better < 2 {
		t.Errorf("descending order is too bad only %d times", better)
	}
}

// expectedDirect packs the Rates of every pair of nodes.
func expectedDirect(list []impl.Tributary, nodes int, capacity int) [][]int {
	direct := [][]int{}
	for a := range nodes {
		for b := a + 1; b < nodes; b++ {
			rates := []int{}
			for _, x := range list {
				if min(x.From, x.To) == a && max(x.From, x.To) == b {
					rates = append(rates, x.Rate)
				}
			}
			if len(rates) > 0 {
				direct = append(direct, []int{a, b, slices.Max(expectedPack(rates, capacity, descending(rates))) + 1})
			}
		}
	}
	return direct
}

// randomTributaries returns up to MaxTributaries tributaries.
func randomTributaries(nodes int, rate int, next func(limit int) int) []impl.Tributary {
	list := []impl.Tributary{}
	for range next(impl.MaxTributaries + 1) {
		from := next(nodes)
		list = append(list, tributary(from, (from+1+next(nodes-1))%nodes, 1+next(rate)))
	}
	return list
}

func TestGroomDirect(t *testing.T) {
	list := []impl.Tributary{tributary(0, 2, 6), tributary(2, 0, 5), tributary(1, 2, 3)}
	check(t, impl.GroomDirect, in(list, 3, 10), out([][]int{{0, 2, 2}, {1, 2, 1}}, true))
	check(t, impl.GroomDirect, in(list, 8, 11), out([][]int{{0, 2, 1}, {1, 2, 1}}, true))
	check(t, impl.GroomDirect, in(list, 3, 6), out([][]int{{0, 2, 2}, {1, 2, 1}}, true))
	check(t, impl.GroomDirect, in([]impl.Tributary{}, 2, 1), out([][]int{}, true))
	check(t, impl.GroomDirect, in([]impl.Tributary{}, 8, 10000), out([][]int{}, true))
	// The Rates of both directions are packed in descending order.
	list = []impl.Tributary{tributary(0, 1, 4), tributary(1, 0, 4), tributary(0, 1, 6), tributary(1, 0, 6), tributary(7, 3, 1)}
	check(t, impl.GroomDirect, in(list, 8, 10), out([][]int{{0, 1, 2}, {3, 7, 1}}, true))
	full := slices.Repeat([]impl.Tributary{tributary(0, 1, 6)}, impl.MaxTributaries)
	check(t, impl.GroomDirect, in(full, 2, 10), out([][]int{{0, 1, 12}}, true))
	check(t, impl.GroomDirect, in(full, 2, 6), out([][]int{{0, 1, 12}}, true))
	checkFails(t, impl.GroomDirect, full, 2, 5)
	checkFails(t, impl.GroomDirect, append(full, full[0]), 2, 10)
	checkFails(t, impl.GroomDirect, []impl.Tributary{tributary(0, 1, 6), tributary(1, 2, 11)}, 3, 10)
	for _, capacity := range badCapacities {
		checkFails(t, impl.GroomDirect, []impl.Tributary{}, 3, capacity)
		checkFails(t, impl.GroomDirect, []impl.Tributary{tributary(0, 1, 1)}, 3, capacity)
	}
	for _, nodes := range badNodeCounts {
		checkFails(t, impl.GroomDirect, []impl.Tributary{}, nodes, 10)
	}
	for _, x := range badTributaries() {
		checkFails(t, impl.GroomDirect, []impl.Tributary{tributary(0, 1, 1), x}, 3, 10000)
	}
	next := numbers(181)
	for range 100 {
		nodes := 2 + next(7)
		list, capacity := randomTributaries(nodes, 1+next(9), next), 9+next(8)
		check(t, impl.GroomDirect, in(list, nodes, capacity), out(expectedDirect(list, nodes, capacity), true))
	}
}

// expectedLinks returns the best list of links for a tributary, out of all of them. It fails if
// there is none.
func expectedLinks(links []impl.Link, free []int, t impl.Tributary) ([]int, bool) {
	var best []int
	var follow func(at int, visited []int, list []int)
	follow = func(at int, visited []int, list []int) {
		if at == t.To && (best == nil || len(list) < len(best) || len(list) == len(best) && slices.Compare(list, best) < 0) {
			best = slices.Clone(list)
		}
		for i, l := range links {
			for _, ends := range [][2]int{{l.A, l.B}, {l.B, l.A}} {
				if ends[0] == at && at != t.To && free[i] >= t.Rate && !slices.Contains(visited, ends[1]) {
					follow(ends[1], append(slices.Clone(visited), ends[1]), append(slices.Clone(list), i))
				}
			}
		}
	}
	follow(t.From, []int{t.From}, nil)
	return best, best != nil
}

// expectedGroomed routes tributaries one after the other.
func expectedGroomed(links []impl.Link, list []impl.Tributary) ([][]int, []int, int) {
	routes, free, blocked := [][]int{}, []int{}, 0
	for _, l := range links {
		free = append(free, l.Capacity)
	}
	for _, x := range list {
		found, ok := expectedLinks(links, free, x)
		for _, i := range found {
			free[i] -= x.Rate
		}
		if !ok {
			found = []int{}
			blocked += x.Rate
		}
		routes = append(routes, found)
	}
	return routes, free, blocked
}

// randomLinks returns up to MaxLinks links.
func randomLinks(nodes int, capacity int, next func(limit int) int) []impl.Link {
	list := []impl.Link{}
	for range next(impl.MaxLinks + 1) {
		a := next(nodes)
		list = append(list, link(a, (a+1+next(nodes-1))%nodes, next(capacity+1)))
	}
	return list
}

func TestRouteTributary(t *testing.T) {
	links := []impl.Link{link(0, 1, 10), link(1, 2, 10), link(0, 2, 6)}
	none := out([]int{}, false, true)
	check(t, impl.RouteTributary, in(links, []int{10, 10, 5}, 3, tributary(0, 2, 6)), out([]int{0, 1}, true, true))
	check(t, impl.RouteTributary, in(links, []int{10, 10, 6}, 3, tributary(0, 2, 6)), out([]int{2}, true, true))
	check(t, impl.RouteTributary, in(links, []int{10, 6, 5}, 3, tributary(2, 0, 6)), out([]int{1, 0}, true, true))
	check(t, impl.RouteTributary, in(links, []int{5, 10, 6}, 3, tributary(1, 0, 6)), out([]int{1, 2}, true, true))
	check(t, impl.RouteTributary, in(links, []int{5, 5, 5}, 3, tributary(0, 2, 6)), none)
	check(t, impl.RouteTributary, in(links, []int{0, 0, 0}, 3, tributary(0, 2, 1)), none)
	check(t, impl.RouteTributary, in(links, []int{10, 10, 10}, 4, tributary(0, 3, 1)), none)
	check(t, impl.RouteTributary, in([]impl.Link{}, []int{}, 2, tributary(0, 1, 1)), none)
	// What is free may be more than the capacity, and parallel links are taken in their order.
	links = []impl.Link{link(1, 0, 0), link(0, 1, 3), link(1, 0, 3)}
	check(t, impl.RouteTributary, in(links, []int{10000, 0, 1}, 2, tributary(0, 1, 1000)), out([]int{0}, true, true))
	check(t, impl.RouteTributary, in(links, []int{2, 3, 3}, 2, tributary(0, 1, 3)), out([]int{1}, true, true))
	// Lists of the same length: the first link decides, then the second one.
	links = []impl.Link{link(3, 1, 9), link(0, 2, 9), link(0, 1, 9), link(2, 3, 9), link(1, 3, 9)}
	free := []int{9, 9, 9, 9, 9}
	check(t, impl.RouteTributary, in(links, free, 4, tributary(0, 3, 2)), out([]int{1, 3}, true, true))
	check(t, impl.RouteTributary, in(links, free, 4, tributary(3, 0, 2)), out([]int{0, 2}, true, true))
	free[3] = 1
	check(t, impl.RouteTributary, in(links, free, 4, tributary(0, 3, 2)), out([]int{2, 0}, true, true))
	// A list over all nodes.
	var row []impl.Link
	for i := range impl.MaxNodes - 1 {
		row = append(row, link(7-i, 6-i, 5))
	}
	check(t, impl.RouteTributary, in(row, slices.Repeat([]int{5}, 7), 8, tributary(0, 7, 5)), out([]int{6, 5, 4, 3, 2, 1, 0}, true, true))
	check(t, impl.RouteTributary, in(row, []int{5, 5, 5, 4, 5, 5, 5}, 8, tributary(0, 7, 5)), none)
}

func TestGroomAllAndBlockedRate(t *testing.T) {
	links := []impl.Link{link(0, 1, 10), link(1, 2, 10), link(0, 2, 6)}
	list := []impl.Tributary{tributary(0, 2, 6), tributary(2, 0, 5), tributary(1, 2, 3)}
	check(t, impl.GroomAll, in(links, 3, list), out([][]int{{2}, {1, 0}, {1}}, []int{5, 2, 0}, true))
	check(t, impl.BlockedRate, in(links, 3, list), out(0, true))
	check(t, impl.GroomAll, in(links[2:], 3, list), out([][]int{{0}, {}, {}}, []int{0}, true))
	check(t, impl.BlockedRate, in(links[2:], 3, list), out(8, true))
	// A tributary that is blocked takes nothing from a later one.
	list = []impl.Tributary{tributary(0, 2, 11), tributary(2, 0, 10), tributary(0, 2, 7), tributary(0, 2, 6), tributary(0, 1, 1)}
	check(t, impl.GroomAll, in(links, 3, list), out([][]int{{}, {1, 0}, {}, {2}, {}}, []int{0, 0, 0}, true))
	check(t, impl.BlockedRate, in(links, 3, list), out(19, true))
	// No tributaries, no links, links without capacity.
	check(t, impl.GroomAll, in(links, 3, []impl.Tributary{}), out([][]int{}, []int{10, 10, 6}, true))
	check(t, impl.BlockedRate, in(links, 3, []impl.Tributary{}), out(0, true))
	check(t, impl.GroomAll, in([]impl.Link{}, 3, list[:2]), out([][]int{{}, {}}, []int{}, true))
	check(t, impl.GroomAll, in([]impl.Link{link(0, 2, 0), link(0, 1, 10000)}, 3, list[:2]), out([][]int{{}, {}}, []int{0, 10000}, true))
	check(t, impl.BlockedRate, in([]impl.Link{link(0, 2, 0)}, 3, list[:2]), out(21, true))
	// As many tributaries and links as possible.
	full := slices.Repeat([]impl.Tributary{tributary(1, 0, 1000)}, impl.MaxTributaries)
	parallel := slices.Repeat([]impl.Link{link(0, 1, 1999)}, impl.MaxLinks)
	routes, free := [][]int{}, []int{}
	for i := range impl.MaxTributaries {
		routes, free = append(routes, []int{i}), append(free, 999)
	}
	check(t, impl.GroomAll, in(parallel, 2, full), out(routes, free, true))
	check(t, impl.LinkLoads, in(parallel, 2, full, routes), out(slices.Repeat([]int{1000}, 12), true))
	check(t, impl.BlockedRate, in(parallel[:3], 2, full), out(9000, true))
	for _, f := range []any{impl.GroomAll, impl.BlockedRate} {
		checkFails(t, f, append(slices.Clone(parallel), link(0, 1, 1)), 2, full)
		checkFails(t, f, parallel, 2, append(slices.Clone(full), full[0]))
	}
}

func TestLinkLoads(t *testing.T) {
	links := []impl.Link{link(0, 1, 10), link(1, 2, 10), link(0, 2, 6)}
	list := []impl.Tributary{tributary(0, 2, 6), tributary(2, 0, 5), tributary(1, 2, 3)}
	check(t, impl.LinkLoads, in(links, 3, list, [][]int{{2}, {1, 0}, {1}}), out([]int{5, 8, 6}, true))
	check(t, impl.LinkLoads, in(links, 3, list, [][]int{{}, {}, {}}), out([]int{0, 0, 0}, true))
	// The lists need not lead anywhere, and may exceed the capacity.
	check(t, impl.LinkLoads, in(links, 3, list, [][]int{{2, 0, 1}, {2}, {0, 2}}), out([]int{9, 6, 14}, true))
	check(t, impl.LinkLoads, in(links, 3, []impl.Tributary{}, [][]int{}), out([]int{0, 0, 0}, true))
	check(t, impl.LinkLoads, in([]impl.Link{}, 3, list, [][]int{{}, {}, {}}), out([]int{}, true))
	for _, routes := range [][][]int{{}, {{2}}, {{2}, {1}}, {{2}, {1}, {1}, {}}, {{3}, {}, {}}, {{}, {}, {-1}}, {{}, {0, 3}, {}}, {{0, 0}, {}, {}}, {{}, {1, 0, 1}, {}}, {{minInt}, {}, {}}, {{maxInt}, {}, {}},
		{{0, 1, 2, 0}, {}, {}}} {
		checkFails(t, impl.LinkLoads, links, 3, list, routes)
	}
	checkFails(t, impl.LinkLoads, []impl.Link{}, 3, list, [][]int{{}, {0}, {}})
	checkFails(t, impl.LinkLoads, links, 3, []impl.Tributary{}, [][]int{{}})
}

func TestGroomingFails(t *testing.T) {
	links, list := []impl.Link{link(0, 1, 10), link(1, 2, 10)}, []impl.Tributary{tributary(0, 2, 6)}
	// failing calls all functions with links, nodes and tributaries one of which is not valid.
	failing := func(links []impl.Link, nodes int, list []impl.Tributary) {
		checkFails(t, impl.GroomAll, links, nodes, list)
		checkFails(t, impl.LinkLoads, links, nodes, list, make([][]int, len(list)))
		checkFails(t, impl.BlockedRate, links, nodes, list)
		checkFails(t, impl.RouteTributary, links, make([]int, len(links)), nodes, list[len(list)-1])
	}
	for _, x := range badLinks() {
		failing([]impl.Link{x}, 3, list)
		failing(append(slices.Clone(links), x), 3, list)
	}
	for _, x := range badTributaries() {
		failing(links, 3, []impl.Tributary{x})
		failing(links, 3, append(slices.Clone(list), x))
	}
	for _, nodes := range append(badNodeCounts, 2) {
		failing(links, nodes, list)
		failing([]impl.Link{}, nodes, list)
	}
	failing(slices.Repeat([]impl.Link{link(0, 1, 10)}, impl.MaxLinks+1), 3, list)
	d := tributary(0, 2, 6)
	for _, free := range [][]int{{}, {1}, {1, 1, 1}, {-1, 1}, {1, 10001}, {minInt, 1}, {1, maxInt}} {
		checkFails(t, impl.RouteTributary, links, free, 3, d)
	}
	check(t, impl.RouteTributary, in(links, []int{10000, 6}, 3, d), out([]int{0, 1}, true, true))
}

func TestGroomingOfSamples(t *testing.T) {
	next := numbers(182)
	routed, blockedOnes, long := 0, 0, 0
	for range 300 {
		nodes := 2 + next(7)
		links := randomLinks(nodes, 20, next)
		list := randomTributaries(nodes, 8, next)
		routes, free, blocked := expectedGroomed(links, list)
		check(t, impl.GroomAll, in(links, nodes, list), out(routes, free, true))
		check(t, impl.BlockedRate, in(links, nodes, list), out(blocked, true))
		loads := []int{}
		for i := range links {
			loads = append(loads, links[i].Capacity-free[i])
		}
		check(t, impl.LinkLoads, in(links, nodes, list, routes), out(loads, true))
		for i, x := range list {
			found, ok := expectedLinks(links, free, x)
			check(t, impl.RouteTributary, in(links, free, nodes, x), out(found, ok, true))
			switch {
			case len(routes[i]) == 0:
				blockedOnes++
			case len(routes[i]) > 2:
				long++
			default:
				routed++
			}
		}
	}
	if routed < 100 || blockedOnes < 100 || long < 50 {
		t.Errorf("only %d tributaries are routed, %d over more than two links, and %d are blocked", routed, long, blockedOnes)
	}
}
