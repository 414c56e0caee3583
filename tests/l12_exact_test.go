package tests

import (
	"slices"
	"testing"

	"loop.example/g00897/impl"
)

// The tests of this file compare every function of chapter 12 with what the document states:
// ordinary inputs, the edge cases that the chapter names, and invalid inputs.

func request(count int, r impl.Route) impl.Request { return impl.Request{Route: r, Count: count} }

// blocksOf builds blocks from Firsts and Counts in turn.
func blocksOf(numbers ...int) []impl.Block {
	list := []impl.Block{}
	for i := 0; i < len(numbers); i += 2 {
		list = append(list, impl.Block{First: numbers[i], Count: numbers[i+1]})
	}
	return list
}

// pentagon is a ring of five nodes, and pentagonRequests are requests of which every two conflict
// exactly if their indices are consecutive (0 follows 4).
func pentagon() impl.Network {
	return network("a b c d e", [4]int{0, 1, 10}, [4]int{0, 4, 10}, [4]int{1, 2, 10}, [4]int{2, 3, 10}, [4]int{3, 4, 10})
}

func pentagonRequests(counts ...int) []impl.Request {
	routes := []impl.Route{route(0, 0, 2), route(1, 2, 3), route(2, 3, 4), route(0, 1, 4), route(4, 1, 0)}
	var list []impl.Request
	for i, count := range counts {
		list = append(list, request(count, routes[i]))
	}
	return list
}

// expectedConflict reports whether two requests conflict.
func expectedConflict(a impl.Request, b impl.Request) bool {
	return have(a.Route.Fibers, b.Route.Fibers)
}

// apart reports whether two blocks have no slot in common.
func apart(a impl.Block, b impl.Block) bool {
	return a.First+a.Count <= b.First || b.First+b.Count <= a.First
}

// expectedFiberBound adds the Counts fiber by fiber.
func expectedFiberBound(n impl.Network, list []impl.Request) (int, int) {
	sums := make([]int, len(n.Fibers))
	for _, q := range list {
		for _, fiber := range q.Route.Fibers {
			sums[fiber] += q.Count
		}
	}
	if len(sums) == 0 {
		return 0, 0
	}
	greatest := slices.Max(sums)
	return greatest, slices.Index(sums, greatest)
}

// expectedClique tries all sets of requests, those with the greater numbers first.
func expectedClique(list []impl.Request) (int, []int) {
	best, members := 0, []int{}
	for set := 1<<len(list) - 1; set >= 0; set-- {
		sum, ok := 0, true
		var chosen []int
		for i, a := range list {
			if set>>i&1 == 0 {
				continue
			}
			sum += a.Count
			for _, k := range chosen {
				ok = ok && expectedConflict(a, list[k])
			}
			chosen = append(chosen, i)
		}
		if ok && sum >= best {
			best, members = sum, chosen
		}
	}
	return best, members
}

// firstAssignment returns the assignment with the smallest Firsts that continues some blocks
// without exceeding a height, or nil if there is none. It tries all blocks.
func firstAssignment(list []impl.Request, blocks []impl.Block, height int) []impl.Block {
	i := len(blocks)
	if i == len(list) {
		return slices.Clone(blocks)
	}
	for first := 0; first+list[i].Count <= height; first++ {
		b, free := impl.Block{First: first, Count: list[i].Count}, true
		for k := range blocks {
			free = free && (apart(b, blocks[k]) || !expectedConflict(list[i], list[k]))
		}
		if free {
			if found := firstAssignment(list, append(blocks, b), height); found != nil {
				return found
			}
		}
	}
	return nil
}

// expectedExact tries all heights in ascending order, from one below which some fiber is too full.
func expectedExact(n impl.Network, list []impl.Request) ([]impl.Block, int) {
	bound, _ := expectedFiberBound(n, list)
	for height := bound; height <= impl.MaxSlots; height++ {
		if found := firstAssignment(list, []impl.Block{}, height); found != nil {
			return found, height
		}
	}
	return nil, -1
}

// expectedGreedy returns the blocks of AssignGreedy and their height, or -1 if there is no block
// for a request.
func expectedGreedy(list []impl.Request, order []int) ([]impl.Block, int) {
	blocks := make([]impl.Block, len(list))
	height := 0
	for at, i := range order {
		free := func(b impl.Block) bool {
			return !slices.ContainsFunc(order[:at], func(k int) bool { return expectedConflict(list[i], list[k]) && !apart(b, blocks[k]) })
		}
		b := impl.Block{Count: list[i].Count}
		for !free(b) {
			b.First++
		}
		blocks[i] = b
		height = max(height, b.First+b.Count)
	}
	if height > impl.MaxSlots {
		return nil, -1
	}
	return blocks, height
}

// orders returns all orders of the numbers below count in lexicographic order.
func orders(count int) [][]int {
	all := [][]int{}
	var extend func(begin []int)
	extend = func(begin []int) {
		if len(begin) == count {
			all = append(all, slices.Clone(begin))
		}
		for i := range count {
			if !slices.Contains(begin, i) {
				extend(append(begin, i))
			}
		}
	}
	extend([]int{})
	return all
}

// randomRequests returns up to MaxRequests requests with Counts of at most limit, of a network that
// has routes.
func randomRequests(n impl.Network, next func(limit int) int, limit int) []impl.Request {
	routes := expectedRoutes(n)
	list := []impl.Request{}
	for range next(impl.MaxRequests + 1) {
		list = append(list, request(1+next(limit), routes[next(len(routes))]))
	}
	return list
}

// networksWithRoutes returns the samples and more networks that have at least one fiber.
func networksWithRoutes() []impl.Network {
	list := append(sampleNetworks(), pentagon(), diamond())
	list = append(list, randomNetworks(40, 6)...)
	return slices.DeleteFunc(list, func(n impl.Network) bool { return len(n.Fibers) == 0 })
}

// badRequests returns requests that are not valid for the square.
func badRequests() []impl.Request {
	var list []impl.Request
	for _, count := range badCounts() {
		list = append(list, request(count, route(0, 0)))
	}
	for _, r := range badRoutes() {
		list = append(list, request(1, r))
	}
	return list
}

func TestIsValidRequests(t *testing.T) {
	n := square()
	var list []impl.Request
	for count := range impl.MaxRequests + 3 {
		check(t, impl.IsValidRequests, in(n, list), out(count <= impl.MaxRequests))
		list = append(list, request(24, route(0, 0, 2)))
	}
	for count := -2; count <= impl.MaxSlots+2; count++ {
		check(t, impl.IsValidRequests, in(n, []impl.Request{request(1, route(0, 0)), request(count, route(1, 2))}), out(count >= 1 && count <= impl.MaxSlots))
	}
	for _, q := range badRequests() {
		check(t, impl.IsValidRequests, in(n, []impl.Request{q}), out(false))
		check(t, impl.IsValidRequests, in(n, []impl.Request{request(1, route(0, 0)), q, request(1, route(0, 0))}), out(false))
	}
	for _, n := range sampleNetworks() {
		check(t, impl.IsValidRequests, in(n, []impl.Request{}), out(true))
		check(t, impl.IsValidRequests, in(n, []impl.Request{request(1, route(0, 0))}), out(len(n.Fibers) > 0 && n.Fibers[0].A == 0))
	}
	for _, n := range brokenNetworks() {
		check(t, impl.IsValidRequests, in(n, []impl.Request{}), out(false))
		check(t, impl.IsValidRequests, in(n, []impl.Request{request(1, route(0, 0))}), out(false))
	}
}

func TestConflictPairsAndBounds(t *testing.T) {
	n := square()
	list := []impl.Request{request(3, route(0, 0, 2)), request(2, route(1, 2)), request(4, route(0, 1)), request(5, route(3, 1, 0))}
	check(t, impl.ConflictPairs, in(n, list), out([][2]int{{0, 1}, {0, 3}, {2, 3}}, true))
	check(t, impl.FiberBound, in(n, list), out(9, 1, true))
	check(t, impl.CliqueBound, in(n, list), out(9, []int{2, 3}, true))
	// Fibers and cliques with equal sums.
	list[3].Count = 4
	check(t, impl.FiberBound, in(n, list), out(8, 1, true))
	list[3].Count = 1
	check(t, impl.FiberBound, in(n, list), out(5, 1, true))
	check(t, impl.CliqueBound, in(n, list), out(5, []int{0, 1}, true))
	list[0].Count = 4
	check(t, impl.FiberBound, in(n, list), out(6, 2, true))
	check(t, impl.CliqueBound, in(n, []impl.Request{request(6, route(0, 1)), list[0], list[1]}), out(6, []int{0}, true))
	// Requests without a conflict.
	list = []impl.Request{request(3, route(0, 0)), request(7, route(3, 1)), request(7, route(1, 2)), request(24, route(3, 3))}
	check(t, impl.ConflictPairs, in(n, list), out([][2]int{}, true))
	check(t, impl.FiberBound, in(n, list), out(24, 3, true))
	check(t, impl.CliqueBound, in(n, list), out(24, []int{3}, true))
	check(t, impl.CliqueBound, in(n, list[:3]), out(7, []int{1}, true))
	// A clique of which no fiber has all requests: any two of three routes share a fiber.
	triangle := network("a b c", [4]int{0, 1, 1}, [4]int{0, 2, 1}, [4]int{1, 2, 1})
	list = []impl.Request{request(2, route(0, 0, 2)), request(3, route(1, 2, 1)), request(4, route(2, 1, 0))}
	check(t, impl.FiberBound, in(triangle, list), out(7, 1, true))
	check(t, impl.CliqueBound, in(triangle, list), out(9, []int{0, 1, 2}, true))
	check(t, impl.ConflictPairs, in(triangle, list), out([][2]int{{0, 1}, {0, 2}, {1, 2}}, true))
	check(t, impl.FiberBound, in(n, []impl.Request{}), out(0, 0, true))
	check(t, impl.CliqueBound, in(n, []impl.Request{}), out(0, []int{}, true))
	check(t, impl.ConflictPairs, in(n, []impl.Request{}), out([][2]int{}, true))
}

func TestAssignExact(t *testing.T) {
	n := square()
	list := []impl.Request{request(3, route(0, 0, 2)), request(2, route(1, 2)), request(4, route(0, 1))}
	check(t, impl.AssignExact, in(n, list), out(blocksOf(0, 3, 3, 2, 0, 4), 5, true))
	// The first request must make room for the others.
	list = []impl.Request{request(2, route(0, 0)), request(3, route(0, 0, 2)), request(4, route(1, 2)), request(1, route(1, 2))}
	check(t, impl.AssignExact, in(n, list), out(blocksOf(0, 2, 4, 3, 0, 4, 7, 1), 8, true))
	// The bound is not reached: neighbors differ, but the ring is odd.
	check(t, impl.AssignExact, in(pentagon(), pentagonRequests(1, 1, 1, 1, 1)), out(blocksOf(0, 1, 1, 1, 0, 1, 1, 1, 2, 1), 3, true))
	check(t, impl.CliqueBound, in(pentagon(), pentagonRequests(1, 1, 1, 1, 1)), out(2, []int{0, 1}, true))
	check(t, impl.AssignExact, in(pentagon(), pentagonRequests(8, 8, 8, 8, 8)), out(blocksOf(0, 8, 8, 8, 0, 8, 8, 8, 16, 8), 24, true))
	checkFails(t, impl.AssignExact, pentagon(), pentagonRequests(9, 9, 9, 9, 9))
	check(t, impl.CliqueBound, in(pentagon(), pentagonRequests(9, 9, 9, 9, 9)), out(18, []int{0, 1}, true))
	check(t, impl.AssignExact, in(pentagon(), pentagonRequests(9, 9, 9, 9)), out(blocksOf(0, 9, 9, 9, 0, 9, 9, 9), 18, true))
	// Several requests on one route fill all slots, and one more.
	full := slices.Repeat([]impl.Request{request(3, route(0, 0, 2))}, impl.MaxRequests)
	full[3].Count = 6
	check(t, impl.AssignExact, in(n, full), out(blocksOf(0, 3, 3, 3, 6, 3, 9, 6, 15, 3, 18, 3, 21, 3), 24, true))
	full[6].Count = 4
	checkFails(t, impl.AssignExact, n, full)
	checkFails(t, impl.GreedyOrder, n, full)
	check(t, impl.AssignExact, in(n, []impl.Request{request(24, route(0, 0))}), out(blocksOf(0, 24), 24, true))
	check(t, impl.AssignExact, in(n, []impl.Request{request(1, route(0, 0))}), out(blocksOf(0, 1), 1, true))
	checkFails(t, impl.AssignExact, n, []impl.Request{request(24, route(0, 0)), request(1, route(1, 0))})
}

func TestAssignGreedy(t *testing.T) {
	n := square()
	list := []impl.Request{request(3, route(0, 0, 2)), request(2, route(1, 2)), request(4, route(0, 1))}
	check(t, impl.AssignGreedy, in(n, list, []int{1, 0, 2}), out(blocksOf(2, 3, 0, 2, 0, 4), 5, true))
	check(t, impl.AssignGreedy, in(n, list, []int{2, 0, 1}), out(blocksOf(0, 3, 3, 2, 0, 4), 5, true))
	// A gap is used if it is large enough; a block on several fibers has to be free on all of them.
	list = []impl.Request{request(2, route(0, 0)), request(3, route(1, 2)), request(4, route(0, 0, 2)), request(1, route(0, 0)), request(2, route(1, 0))}
	check(t, impl.AssignGreedy, in(n, list, []int{0, 1, 2, 3, 4}), out(blocksOf(0, 2, 0, 3, 3, 4, 2, 1, 7, 2), 9, true))
	check(t, impl.AssignGreedy, in(n, list, []int{4, 3, 2, 1, 0}), out(blocksOf(7, 2, 0, 3, 3, 4, 2, 1, 0, 2), 9, true))
	// An order may be worse than another one, or fail.
	check(t, impl.AssignGreedy, in(pentagon(), pentagonRequests(4, 4, 4, 4), []int{0, 3, 1, 2}), out(blocksOf(0, 4, 4, 4, 8, 4, 0, 4), 12, true))
	checkFails(t, impl.AssignGreedy, pentagon(), pentagonRequests(9, 9, 9, 9), []int{0, 3, 1, 2})
	for _, order := range [][]int{{}, {0}, {0, 1}, {0, 1, 1}, {0, 1, 3}, {0, 1, -1}, {0, 1, 2, 0}, {0, 1, 2, 3}, {1, 1, 1}, {0, 0, 1, 2}, {minInt, 0, 1}, {maxInt, 0, 1, 2}} {
		checkFails(t, impl.AssignGreedy, n, list[:3], order)
	}
	checkFails(t, impl.AssignGreedy, n, []impl.Request{}, []int{0})
}

func TestCheckAssignmentAndOptimalityGap(t *testing.T) {
	n := square()
	list := []impl.Request{request(3, route(0, 0, 2)), request(2, route(1, 2)), request(4, route(0, 1))}
	for _, x := range []struct {
		blocks []impl.Block
		height int
	}{
		{blocksOf(0, 3, 3, 2, 0, 4), 5}, {blocksOf(2, 3, 0, 2, 0, 4), 5}, {blocksOf(21, 3, 0, 2, 0, 4), 24}, {blocksOf(0, 3, 22, 2, 20, 4), 24}, {blocksOf(0, 3, 3, 2, 2, 4), 6},
	} {
		check(t, impl.CheckAssignment, in(n, list, x.blocks), out(x.height, true))
		check(t, impl.OptimalityGap, in(n, list, x.blocks), out(x.height-5, true))
	}
	check(t, impl.OptimalityGap, in(pentagon(), pentagonRequests(1, 1, 1, 1, 1), blocksOf(0, 1, 1, 1, 0, 1, 1, 1, 2, 1)), out(1, true))
	for _, blocks := range [][]impl.Block{
		{}, blocksOf(0, 3, 3, 2), blocksOf(0, 3, 3, 2, 0, 4, 7, 1), blocksOf(1, 3, 3, 2, 0, 4), blocksOf(0, 3, 2, 2, 0, 4), blocksOf(0, 3, 0, 2, 0, 4), blocksOf(0, 3, 1, 2, 0, 4),
		blocksOf(0, 3, 3, 3, 0, 4), blocksOf(0, 2, 3, 2, 0, 4), blocksOf(0, 3, 3, 2, 0, 3), blocksOf(0, 3, 3, 2, 21, 4), blocksOf(22, 3, 3, 2, 0, 4), blocksOf(0, 3, 3, 2, -1, 4),
		blocksOf(0, 3, 3, 2, maxInt, 4), blocksOf(0, 3, 3, 2, 0, maxInt), blocksOf(0, 3, 3, 2, 0, 0), blocksOf(0, 3, 3, 2, 0, -4), blocksOf(0, 3, 3, 2, minInt, minInt), make([]impl.Block, 3),
	} {
		checkFails(t, impl.CheckAssignment, n, list, blocks)
		checkFails(t, impl.OptimalityGap, n, list, blocks)
	}
}

func TestGreedyOrder(t *testing.T) {
	n := square()
	list := []impl.Request{request(3, route(0, 0, 2)), request(2, route(1, 2)), request(4, route(0, 1))}
	check(t, impl.GreedyOrder, in(n, list), out([]int{0, 1, 2}, true))
	// The orders that begin with 0, 1 are one too high.
	list = []impl.Request{request(2, route(0, 0)), request(3, route(0, 0, 2)), request(4, route(1, 2)), request(1, route(1, 2))}
	check(t, impl.GreedyOrder, in(n, list), out([]int{0, 2, 1, 3}, true))
	check(t, impl.GreedyOrder, in(pentagon(), pentagonRequests(1, 1, 1, 1, 1)), out([]int{0, 1, 2, 3, 4}, true))
}

// TestExactOfNoRequests assigns nothing, also in networks without fibers.
func TestExactOfNoRequests(t *testing.T) {
	for _, n := range sampleNetworks() {
		none := []impl.Request{}
		check(t, impl.ConflictPairs, in(n, none), out([][2]int{}, true))
		check(t, impl.FiberBound, in(n, none), out(0, 0, true))
		check(t, impl.CliqueBound, in(n, none), out(0, []int{}, true))
		check(t, impl.AssignExact, in(n, none), out([]impl.Block{}, 0, true))
		check(t, impl.AssignGreedy, in(n, none, []int{}), out([]impl.Block{}, 0, true))
		check(t, impl.CheckAssignment, in(n, none, []impl.Block{}), out(0, true))
		check(t, impl.OptimalityGap, in(n, none, []impl.Block{}), out(0, true))
		check(t, impl.GreedyOrder, in(n, none), out([]int{}, true))
		checkFails(t, impl.CheckAssignment, n, none, blocksOf(0, 1))
	}
}

func TestExactFails(t *testing.T) {
	// failing calls all functions with requests that are not valid.
	failing := func(n impl.Network, list []impl.Request) {
		blocks := make([]impl.Block, len(list))
		for i := range blocks {
			blocks[i] = impl.Block{First: i, Count: 1}
		}
		checkFails(t, impl.ConflictPairs, n, list)
		checkFails(t, impl.FiberBound, n, list)
		checkFails(t, impl.CliqueBound, n, list)
		checkFails(t, impl.AssignExact, n, list)
		checkFails(t, impl.AssignGreedy, n, list, upTo(len(list)))
		checkFails(t, impl.CheckAssignment, n, list, blocks)
		checkFails(t, impl.OptimalityGap, n, list, blocks)
		checkFails(t, impl.GreedyOrder, n, list)
	}
	for _, q := range badRequests() {
		failing(square(), []impl.Request{q})
		failing(square(), []impl.Request{request(1, route(0, 1)), q})
	}
	for _, n := range brokenNetworks() {
		failing(n, []impl.Request{})
		failing(n, []impl.Request{request(1, route(0, 0))})
	}
	failing(network("a b"), []impl.Request{request(1, route(0, 0))})
	failing(square(), slices.Repeat([]impl.Request{request(1, route(0, 0))}, impl.MaxRequests+1))
}

// TestExactOfSamples compares all functions for random requests with what trying everything gives.
func TestExactOfSamples(t *testing.T) {
	next := numbers(12)
	impossible := 0
	for k, n := range slices.Repeat(networksWithRoutes(), 3) {
		list := randomRequests(n, next, []int{2, 5, 9}[k%3])
		pairs := [][2]int{}
		for i := range list {
			for k := i + 1; k < len(list); k++ {
				if expectedConflict(list[i], list[k]) {
					pairs = append(pairs, [2]int{i, k})
				}
			}
		}
		check(t, impl.ConflictPairs, in(n, list), out(pairs, true))
		sum, fiber := expectedFiberBound(n, list)
		check(t, impl.FiberBound, in(n, list), out(sum, fiber, true))
		bound, members := expectedClique(list)
		check(t, impl.CliqueBound, in(n, list), out(bound, members, true))
		blocks, height := expectedExact(n, list)
		if height < 0 {
			impossible++
			checkFails(t, impl.AssignExact, n, list)
			checkFails(t, impl.GreedyOrder, n, list)
			continue
		}
		check(t, impl.AssignExact, in(n, list), out(blocks, height, true))
		check(t, impl.OptimalityGap, in(n, list, blocks), out(height-bound, true))
		compareGreedy(t, n, list, height)
	}
	if impossible < 5 {
		t.Errorf("only %d lists of requests have no assignment", impossible)
	}
}

// compareGreedy compares the first order that reaches a height, and some others.
func compareGreedy(t *testing.T, n impl.Network, list []impl.Request, height int) {
	t.Helper()
	all := orders(len(list))
	best := slices.IndexFunc(all, func(order []int) bool {
		_, reached := expectedGreedy(list, order)
		return reached == height
	})
	if best < 0 {
		t.Fatalf("no order of %v reaches %d", list, height)
	}
	check(t, impl.GreedyOrder, in(n, list), out(all[best], true))
	for i := 0; i < len(all); i += 1 + len(all)/10 {
		if blocks, reached := expectedGreedy(list, all[i]); reached < 0 {
			checkFails(t, impl.AssignGreedy, n, list, all[i])
		} else {
			check(t, impl.AssignGreedy, in(n, list, all[i]), out(blocks, reached, true))
		}
	}
}
