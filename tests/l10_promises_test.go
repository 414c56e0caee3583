package tests

import (
	"testing"

	"loop.example/g00897/impl"
)

// The tests of this file would fail if promise 10, or promise 29 for a function of chapter 10, were
// broken.

// TestPromise10LongerRoutesNeedNoFewerSlots goes through many lengths in ascending order: the
// number of slots does not descend, and what is too long once is too long for ever.
func TestPromise10LongerRoutesNeedNoFewerSlots(t *testing.T) {
	for _, list := range sampleFormats() {
		for _, rate := range []int{1, 2, 3, 19, 20, 21, 100, 240, 241, 999, 1000} {
			last, possible := 0, true
			for length := 0; length <= impl.MaxReach; length += 1 + length/400 {
				slots, ok := impl.SlotsFor(list, length, rate)
				if ok && (!possible || slots < last || slots < 1 || slots > impl.MaxSlots) {
					t.Errorf("SlotsFor(%v, %d, %d) = %d, but a shorter route needs %d, %v", list, length, rate, slots, last, possible)
				}
				last, possible = slots, ok
			}
		}
	}
}

func TestPromise10UsableRoutesAscend(t *testing.T) {
	next := numbers(101)
	for _, n := range sampleNetworks() {
		for from := range n.Nodes {
			for to := range n.Nodes {
				if from == to {
					continue
				}
				routes, slots, ok := impl.UsableRoutes(n, sampleFormats()[next(8)], demand(from, to, 1+next(60)))
				if !ok || len(routes) != len(slots) {
					t.Fatalf("UsableRoutes(%v, %d, %d) = %v, %v, %v", n, from, to, routes, slots, ok)
				}
				for i := 1; i < len(routes); i++ {
					order, _ := impl.CompareRoutes(n, routes[i-1], routes[i])
					if order != -1 || slots[i] < slots[i-1] {
						t.Errorf("the routes %v and %v of %v need %d and %d slots", routes[i-1], routes[i], n, slots[i-1], slots[i])
					}
				}
			}
		}
	}
}

func demandCandidates() candidates {
	c := routeCandidates()
	addDemands(c)
	return c
}

// addDemands adds lists of formats, demands, and numbers that matter for them.
func addDemands(c candidates) {
	for _, list := range append(sampleFormats(), badFormats()...) {
		c.add(list)
	}
	for _, d := range append(badDemands(), demand(0, 1, 50), demand(1, 0, 1000), demand(2, 3, 1), demand(7, 0, 20)) {
		c.add(d)
		c.add([]impl.Demand{d}, []impl.Demand{d, demand(0, 1, 10)})
	}
	c.add([]impl.Demand(nil), make([]impl.Demand, 13), []impl.Demand{demand(1, 0, 2), demand(0, 1, 2)})
	c.add(300, 301, 1000, 1001, 20000, 20001)
}

func TestPromise29FormatFunctions(t *testing.T) {
	c := demandCandidates()
	for _, f := range []any{impl.IsValidFormats, impl.FormatFor, impl.SlotsFor, impl.IsValidDemands, impl.UsableRoutes, impl.CheapestRoute,
		impl.CostBound, impl.OrderDemands, impl.TrafficBetween} {
		sweep(t, f, c, 4000, func(args []any) bool {
			list, ok := args[0].([]impl.Format)
			return ok && !impl.IsValidFormats(list) || startsWithBrokenNetwork(args)
		})
	}
}
