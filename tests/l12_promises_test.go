package tests

import (
	"slices"
	"testing"

	"loop.example/g00897/impl"
)

// The tests of this file would fail if promise 12, or promise 29 for a function of chapter 12, were
// broken.

// TestPromise12ExactMeetsTheBoundOrMoreIsNeeded checks the assignment of random requests slot by
// slot. If its height is greater than the bound, it tries all assignments that are one lower.
func TestPromise12ExactMeetsTheBoundOrMoreIsNeeded(t *testing.T) {
	next := numbers(121)
	met, above, none := 0, 0, 0
	for _, n := range slices.Repeat(append(networksWithRoutes(), pentagon(), pentagon(), pentagon()), 4) {
		list := randomRequests(n, next, 4)
		if len(n.Nodes) == 5 && next(2) == 0 {
			list = pentagonOrOther(n, list, 1+next(9))
		}
		blocks, height, ok := impl.AssignExact(n, list)
		bound, members, _ := impl.CliqueBound(n, list)
		checkClique(t, list, bound, members)
		if !ok {
			none++
			if firstAssignment(list, []impl.Block{}, impl.MaxSlots) != nil {
				t.Errorf("there is an assignment for %v", list)
			}
			continue
		}
		checkAssigned(t, list, blocks, height)
		gap, ok := impl.OptimalityGap(n, list, blocks)
		if !ok || gap != height-bound || gap < 0 {
			t.Errorf("the gap of %v is %d", list, gap)
		}
		if gap == 0 {
			met++
		} else {
			above++
			if firstAssignment(list, []impl.Block{}, height-1) != nil {
				t.Errorf("%v do not need the height %d", list, height)
			}
		}
	}
	if met < 100 || above < 5 || none < 1 {
		t.Errorf("the bound is met %d times, more is needed %d times, and there is no assignment %d times", met, above, none)
	}
}

// pentagonOrOther returns requests for the pentagon whose bound is not met, or list for any other
// network.
func pentagonOrOther(n impl.Network, list []impl.Request, count int) []impl.Request {
	if impl.IsValidRequests(n, pentagonRequests(1, 1, 1, 1, 1)) {
		return pentagonRequests(count, count, count, count, count)
	}
	return list
}

// checkClique checks that a bound is the sum of the Counts of requests that all conflict, so that
// none of their slots can be used twice.
func checkClique(t *testing.T, list []impl.Request, bound int, members []int) {
	t.Helper()
	sum := 0
	for k, i := range members {
		sum += list[i].Count
		for _, other := range members[:k] {
			if !expectedConflict(list[i], list[other]) {
				t.Errorf("the requests %d and %d of %v do not conflict", i, other, list)
			}
		}
	}
	if sum != bound {
		t.Errorf("the requests %v of %v have the sum %d, not %d", members, list, sum, bound)
	}
}

// checkAssigned checks that blocks are an assignment of a height: no slot of a fiber is given twice.
func checkAssigned(t *testing.T, list []impl.Request, blocks []impl.Block, height int) {
	t.Helper()
	used, top := map[[2]int]bool{}, 0
	for i, q := range list {
		for _, s := range slotsOf(impl.Light{Route: q.Route, Block: blocks[i]}) {
			if used[s] || s[1] < 0 || s[1] >= impl.MaxSlots {
				t.Errorf("%v get %v, with slot %d twice or outside", list, blocks, s[1])
			}
			used[s] = true
			top = max(top, s[1]+1)
		}
		if blocks[i].Count != q.Count {
			t.Errorf("%v get %v", list, blocks)
		}
	}
	if len(blocks) != len(list) || top != height {
		t.Errorf("%v get %v with the height %d, not %d", list, blocks, top, height)
	}
}

func exactCandidates() candidates {
	c := routeCandidates()
	for _, q := range append(badRequests(), request(1, route(0, 0)), request(24, route(0, 0, 2)), request(3, route(1, 0))) {
		c.add([]impl.Request{q}, []impl.Request{request(2, route(0, 0)), q})
	}
	c.add([]impl.Request(nil), slices.Repeat([]impl.Request{request(3, route(0, 0))}, 7), slices.Repeat([]impl.Request{request(4, route(0, 0))}, 7),
		make([]impl.Request, 8), pentagonRequests(1, 2, 3, 4, 5))
	c.add([]impl.Block(nil), blocksOf(0, 1), blocksOf(0, 24), blocksOf(0, 2, 2, 1), blocksOf(minInt, maxInt), blocksOf(0, 2, 2, 24), make([]impl.Block, 7))
	c.add([]int{0, 1, 2, 3, 4, 5, 6}, []int{1, 0}, []int{6, 5, 4, 3, 2, 1, 0})
	return c
}

func TestPromise29ExactFunctions(t *testing.T) {
	c := exactCandidates()
	for _, f := range []any{impl.IsValidRequests, impl.ConflictPairs, impl.FiberBound, impl.CliqueBound, impl.AssignExact, impl.AssignGreedy,
		impl.CheckAssignment, impl.OptimalityGap, impl.GreedyOrder} {
		sweep(t, f, c, 4000, startsWithBrokenNetwork)
	}
}
