package tests

import (
	"testing"

	"loop.example/g00897/impl"
)

// The tests of this file would fail if promise 18, or promise 29 for a function of chapter 18, were
// broken.

// TestPromise18NoUnitHoldsMoreThanItsCapacity adds the rates of every unit. No unit is left out, the
// first unit with room is taken, and no way of packing needs fewer units than FewestUnits.
func TestPromise18NoUnitHoldsMoreThanItsCapacity(t *testing.T) {
	next := numbers(183)
	for range 600 {
		capacity, rates := []int{1, 5, 13, 40, 10000}[next(5)], []int{}
		for range next(impl.MaxPacked + 1) {
			rates = append(rates, 1+next(capacity))
		}
		fewest, ok := impl.FewestUnits(rates, capacity)
		inOrder, inOk := impl.PackInOrder(rates, capacity)
		sorted, sortedOk := impl.PackDescending(rates, capacity)
		if !ok || !inOk || !sortedOk {
			t.Fatalf("%v are not packed into units of %d", rates, capacity)
		}
		sum := 0
		for _, rate := range rates {
			sum += rate
		}
		used := checkUnits(t, rates, capacity, inOrder)
		better := checkUnits(t, rates, capacity, sorted)
		if fewest > used || fewest > better || fewest*capacity < sum {
			t.Errorf("%v need %d units of %d, but are put into %d or %d", rates, fewest, capacity, used, better)
		}
	}
}

// checkUnits checks that no unit holds more than the capacity, and returns the number of units.
func checkUnits(t *testing.T, rates []int, capacity int, units []int) int {
	t.Helper()
	loads := map[int]int{}
	for i, unit := range units {
		loads[unit] += rates[i]
	}
	for unit := range len(loads) {
		if loads[unit] == 0 || loads[unit] > capacity {
			t.Errorf("unit %d of %v holds %d of %v, not 1..%d", unit, units, loads[unit], rates, capacity)
		}
	}
	if len(units) != len(rates) {
		t.Errorf("%v are put into %v", rates, units)
	}
	return len(loads)
}

// TestPromise18UsedAndFreeAddUpToTheCapacity follows every tributary over its links, and compares
// what is used with what is free.
func TestPromise18UsedAndFreeAddUpToTheCapacity(t *testing.T) {
	next := numbers(184)
	carried := 0
	for range 500 {
		nodes := 2 + next(7)
		links, list := randomLinks(nodes, 30, next), randomTributaries(nodes, 12, next)
		routes, free, ok := impl.GroomAll(links, nodes, list)
		loads, loadsOk := impl.LinkLoads(links, nodes, list, routes)
		if !ok || !loadsOk || len(routes) != len(list) {
			t.Fatalf("GroomAll(%v, %d, %v) = %v", links, nodes, list, routes)
		}
		used, blocked := make([]int, len(links)), 0
		for i, x := range list {
			at, visited := x.From, map[int]bool{x.From: true}
			for _, k := range routes[i] {
				at = links[k].A + links[k].B - at
				if visited[at] {
					t.Errorf("%v visits a node twice over %v of %v", x, routes[i], links)
				}
				visited[at] = true
				used[k] += x.Rate
			}
			if len(routes[i]) == 0 {
				blocked += x.Rate
			} else if carried++; at != x.To {
				t.Errorf("%v gets to %d over %v of %v", x, at, routes[i], links)
			}
		}
		for k, l := range links {
			if free[k] < 0 || used[k] != loads[k] || loads[k]+free[k] != l.Capacity {
				t.Errorf("of the link %d of %v, %d is used and %d free", k, links, loads[k], free[k])
			}
		}
		check(t, impl.BlockedRate, in(links, nodes, list), out(blocked, true))
	}
	if carried < 500 {
		t.Errorf("only %d tributaries are carried", carried)
	}
}

func groomingCandidates() candidates {
	c := candidates{}
	links := []impl.Link{link(0, 1, 10), link(1, 2, 10), link(0, 2, 6)}
	list := []impl.Tributary{tributary(0, 2, 6), tributary(2, 0, 5), tributary(1, 2, 3)}
	c.add(links, links[:1], []impl.Link(nil), make([]impl.Link, 3), make([]impl.Link, 13), append(links, badLinks()[9]))
	c.add(list, list[:1], []impl.Tributary(nil), make([]impl.Tributary, 1), make([]impl.Tributary, 13), append(list, badTributaries()[3]))
	for _, x := range append(list, badTributaries()...) {
		c.add(x)
	}
	c.add([]int(nil), []int{}, []int{1}, []int{6, 5, 5, 4}, []int{10, 10, 5}, []int{10000, 0, 1}, []int{0}, []int{-1, 3}, []int{minInt, maxInt}, make([]int, 11), []int{1, 1, 1, 1, 1, 1, 1, 1, 1, 1, 1, 1, 1})
	c.add([][]int(nil), [][]int{{}}, [][]int{{2}, {1, 0}, {1}}, [][]int{{0}, {0}, nil}, [][]int{{0, 0}, {}, {}}, [][]int{{minInt}, {maxInt}, {3}})
	c.add(minInt, -1, 0, 1, 2, 3, 8, 9, 10, 10000, 10001, maxInt)
	return c
}

func TestPromise29GroomingFunctions(t *testing.T) {
	c := groomingCandidates()
	for _, f := range []any{impl.IsValidTributaries, impl.PackInOrder, impl.PackDescending, impl.FewestUnits, impl.GroomDirect, impl.RouteTributary,
		impl.GroomAll, impl.LinkLoads, impl.BlockedRate} {
		sweep(t, f, c, 3000, func(args []any) bool { return false })
	}
}
