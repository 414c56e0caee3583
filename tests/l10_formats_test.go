package tests

import (
	"slices"
	"testing"

	"loop.example/g00897/impl"
)

// The tests of this file compare every function of chapter 10 with what the document states:
// ordinary inputs, the edge cases that the chapter names, and invalid inputs.

// formats builds a list of formats from reaches and rates in turn.
func formats(numbers ...int) []impl.Format {
	var list []impl.Format
	for i := 0; i < len(numbers); i += 2 {
		list = append(list, impl.Format{Reach: numbers[i], Rate: numbers[i+1]})
	}
	return list
}

func demand(from int, to int, rate int) impl.Demand {
	return impl.Demand{From: from, To: to, Rate: rate}
}

func sampleFormats() [][]impl.Format {
	return [][]impl.Format{
		formats(1000, 10, 300, 20), formats(20000, 1000), formats(1, 1), formats(20000, 1, 1, 1000), formats(6, 1, 5, 2, 4, 3, 3, 4, 2, 5, 1, 6),
		formats(20000, 5, 6000, 10, 600, 40, 200, 41), formats(300, 3), formats(12000, 50, 5000, 90, 20, 400),
	}
}

func badFormats() [][]impl.Format {
	return [][]impl.Format{
		nil, {}, formats(7, 1, 6, 2, 5, 3, 4, 4, 3, 5, 2, 6, 1, 7), formats(0, 1), formats(-1, 1), formats(20001, 1), formats(1, 0), formats(1, -1),
		formats(1, 1001), formats(maxInt, 1), formats(minInt, 1), formats(1, maxInt), formats(1, minInt), formats(300, 20, 1000, 10),
		formats(1000, 10, 1000, 20), formats(1000, 10, 300, 10), formats(1000, 20, 300, 10), formats(1000, 10, 999, 9), formats(1000, 10, 1001, 11),
		formats(1000, 10, 300, 20, 300, 30), formats(1000, 10, 300, 20, 200, 20), formats(1000, 10, 300, 20, 301, 30), formats(1000, 10, 300, 20, 0, 30),
		formats(1000, 10, 300, 20, 200, 1001), formats(20001, 10, 300, 20), formats(1000, 0, 300, 20),
	}
}

// badDemands returns demands that are not valid for the square.
func badDemands() []impl.Demand {
	return []impl.Demand{
		{}, demand(1, 1, 5), demand(-1, 0, 5), demand(0, -1, 5), demand(4, 0, 5), demand(0, 4, 5), demand(minInt, 0, 5), demand(0, maxInt, 5), demand(-1, -1, 5),
		demand(0, 1, 0), demand(0, 1, -1), demand(0, 1, 1001), demand(0, 1, maxInt), demand(0, 1, minInt),
		{From: 0, To: 1, Rate: 5, Class: -1}, {From: 0, To: 1, Rate: 5, Class: 3}, {From: 0, To: 1, Rate: 5, Class: maxInt}, {From: 0, To: 1, Rate: 5, Class: minInt},
	}
}

func TestIsValidFormats(t *testing.T) {
	for _, list := range sampleFormats() {
		check(t, impl.IsValidFormats, in(list), out(true))
	}
	for _, list := range badFormats() {
		check(t, impl.IsValidFormats, in(list), out(false))
	}
	var list []impl.Format
	for i := range impl.MaxFormats + 2 {
		check(t, impl.IsValidFormats, in(list), out(i >= 1 && i <= impl.MaxFormats))
		list = append(list, impl.Format{Reach: impl.MaxReach - i, Rate: impl.MaxRate - 10 + i})
	}
	for _, x := range []int{0, 1, impl.MaxRate, impl.MaxRate + 1, impl.MaxReach, impl.MaxReach + 1} {
		check(t, impl.IsValidFormats, in(formats(x, 1)), out(x >= 1 && x <= impl.MaxReach))
		check(t, impl.IsValidFormats, in(formats(1, x)), out(x >= 1 && x <= impl.MaxRate))
	}
}

// expectedFormat tries the formats from the last one on.
func expectedFormat(list []impl.Format, length int) int {
	for i := len(list) - 1; i >= 0; i-- {
		if length <= list[i].Reach {
			return i
		}
	}
	return -1
}

// expectedSlots adds slots until they carry the rate, and returns 0 if there is no such number.
func expectedSlots(list []impl.Format, length int, rate int) int {
	best := expectedFormat(list, length)
	for slots := 1; best >= 0 && slots <= impl.MaxSlots; slots++ {
		if slots*list[best].Rate >= rate {
			return slots
		}
	}
	return 0
}

func TestFormatFor(t *testing.T) {
	list := formats(1000, 10, 300, 20)
	for length, want := range map[int]int{0: 1, 1: 1, 299: 1, 300: 1, 301: 0, 999: 0, 1000: 0} {
		check(t, impl.FormatFor, in(list, length), out(want, true))
	}
	check(t, impl.FormatFor, in(formats(20000, 7), 20000), out(0, true))
	check(t, impl.FormatFor, in(formats(6, 1, 5, 2, 4, 3, 3, 4, 2, 5, 1, 6), 0), out(5, true))
	for _, length := range []int{1001, -1, 20000, 20001, minInt, maxInt} {
		checkFails(t, impl.FormatFor, list, length)
	}
	checkFails(t, impl.FormatFor, formats(20000, 7), 20001)
	for _, list := range sampleFormats() {
		for _, f := range list {
			for length := max(0, f.Reach-2); length <= min(f.Reach+2, impl.MaxReach); length++ {
				if best := expectedFormat(list, length); best >= 0 {
					check(t, impl.FormatFor, in(list, length), out(best, true))
				} else {
					checkFails(t, impl.FormatFor, list, length)
				}
			}
		}
	}
	for _, list := range badFormats() {
		checkFails(t, impl.FormatFor, list, 0)
		checkFails(t, impl.FormatFor, list, 1)
	}
}

func TestSlotsFor(t *testing.T) {
	list := formats(1000, 10, 300, 20)
	check(t, impl.SlotsFor, in(list, 400, 50), out(5, true))
	check(t, impl.SlotsFor, in(list, 300, 50), out(3, true))
	check(t, impl.SlotsFor, in(list, 301, 51), out(6, true))
	check(t, impl.SlotsFor, in(list, 300, 1), out(1, true))
	check(t, impl.SlotsFor, in(list, 300, 480), out(24, true))
	check(t, impl.SlotsFor, in(list, 1000, 240), out(24, true))
	check(t, impl.SlotsFor, in(formats(9, 1000), 9, 1000), out(1, true))
	check(t, impl.SlotsFor, in(formats(9, 999), 9, 1000), out(2, true))
	checkFails(t, impl.SlotsFor, list, 300, 481)
	checkFails(t, impl.SlotsFor, list, 301, 241)
	checkFails(t, impl.SlotsFor, list, 1000, 1000)
	checkFails(t, impl.SlotsFor, list, 1001, 1)
	checkFails(t, impl.SlotsFor, list, -1, 1)
	for _, rate := range []int{0, -1, 1001, minInt, maxInt} {
		checkFails(t, impl.SlotsFor, list, 300, rate)
		checkFails(t, impl.SlotsFor, formats(9, 1000), 9, rate)
	}
	for _, list := range sampleFormats() {
		for _, length := range []int{0, 1, 2, 5, 300, 301, 600, 6000, 20000} {
			for rate := 1; rate <= impl.MaxRate; rate += 1 + rate/20 {
				if slots := expectedSlots(list, length, rate); slots > 0 {
					check(t, impl.SlotsFor, in(list, length, rate), out(slots, true))
				} else {
					checkFails(t, impl.SlotsFor, list, length, rate)
				}
			}
		}
	}
	for _, list := range badFormats() {
		checkFails(t, impl.SlotsFor, list, 1, 1)
	}
}

func TestIsValidDemands(t *testing.T) {
	n := square()
	check(t, impl.IsValidDemands, in(n, []impl.Demand{}), out(true))
	check(t, impl.IsValidDemands, in(network("a b"), []impl.Demand{demand(1, 0, 7)}), out(true))
	for class := -1; class <= 3; class++ {
		d := impl.Demand{From: 3, To: 1, Rate: 9, Class: class}
		check(t, impl.IsValidDemands, in(n, []impl.Demand{d, d}), out(class >= impl.ClassPlain && class <= impl.ClassShared))
	}
	for _, rate := range []int{0, 1, 2, 999, 1000, 1001} {
		check(t, impl.IsValidDemands, in(n, []impl.Demand{demand(0, 1, rate)}), out(rate >= 1 && rate <= impl.MaxRate))
	}
	for from := -1; from <= 4; from++ {
		for to := -1; to <= 4; to++ {
			want := from >= 0 && from < 4 && to >= 0 && to < 4 && from != to
			check(t, impl.IsValidDemands, in(n, []impl.Demand{demand(0, 1, 1), demand(from, to, 3)}), out(want))
		}
	}
	var list []impl.Demand
	for count := range impl.MaxDemands + 3 {
		check(t, impl.IsValidDemands, in(n, list), out(count <= impl.MaxDemands))
		list = append(list, demand(2, 0, 4))
	}
	for _, d := range badDemands() {
		check(t, impl.IsValidDemands, in(n, []impl.Demand{d}), out(false))
		check(t, impl.IsValidDemands, in(n, []impl.Demand{demand(0, 1, 1), d, demand(0, 1, 1)}), out(false))
	}
	for _, n := range brokenNetworks() {
		check(t, impl.IsValidDemands, in(n, []impl.Demand{}), out(false))
		check(t, impl.IsValidDemands, in(n, []impl.Demand{demand(0, 1, 1)}), out(false))
	}
	if impl.ClassPlain != 0 || impl.ClassDedicated != 1 || impl.ClassShared != 2 {
		t.Error("the classes have other numbers")
	}
}

// expectedUsable returns the usable ones of some routes, and their slots.
func expectedUsable(n impl.Network, list []impl.Format, routes []impl.Route, rate int) ([]impl.Route, []int) {
	var usable []impl.Route
	var slots []int
	for _, r := range routes {
		if length := expectedLength(n, r); length <= impl.MaxReach && expectedSlots(list, length, rate) > 0 {
			usable, slots = append(usable, r), append(slots, expectedSlots(list, length, rate))
		}
	}
	return usable, slots
}

// expectedCheapest returns the index of the first usable route with the smallest cost, and this
// cost.
func expectedCheapest(usable []impl.Route, slots []int) (int, int) {
	best, cost := -1, maxInt
	for i, r := range usable {
		if c := slots[i] * len(r.Fibers); c < cost {
			best, cost = i, c
		}
	}
	return best, cost
}

func TestUsableRoutesAndCheapestRoute(t *testing.T) {
	n, list := square(), formats(1000, 10, 300, 20)
	check(t, impl.UsableRoutes, in(n, list, demand(0, 2, 50)), out([]impl.Route{route(0, 0, 2), route(0, 1, 3)}, []int{3, 5}, true))
	check(t, impl.CheapestRoute, in(n, list, demand(0, 2, 50)), out(route(0, 0, 2), 3, true))
	// The shortest route has more fibers than another one: its cost is higher, lower, or equal.
	check(t, impl.CheapestRoute, in(trap(), formats(1000, 10), demand(0, 2, 50)), out(route(0, 1), 5, true))
	check(t, impl.CheapestRoute, in(trap(), formats(1000, 10, 300, 25), demand(0, 2, 50)), out(route(0, 0, 2), 2, true))
	check(t, impl.CheapestRoute, in(trap(), formats(1000, 10, 300, 20), demand(0, 2, 60)), out(route(0, 0, 2), 3, true))
	// Not all routes reach the end, or have enough slots.
	check(t, impl.UsableRoutes, in(n, formats(300, 20), demand(0, 2, 50)), out([]impl.Route{route(0, 0, 2)}, []int{3}, true))
	check(t, impl.UsableRoutes, in(n, list, demand(0, 2, 480)), out([]impl.Route{route(0, 0, 2)}, []int{24}, true))
	check(t, impl.UsableRoutes, in(n, list, demand(0, 2, 481)), out([]impl.Route{}, []int{}, true))
	check(t, impl.UsableRoutes, in(parallels(), list, demand(0, 3, 50)), out([]impl.Route{}, []int{}, true))
	checkFails(t, impl.CheapestRoute, n, list, demand(0, 2, 481))
	checkFails(t, impl.CheapestRoute, parallels(), list, demand(0, 3, 50))
	next := numbers(10)
	forAllPairs(func(n impl.Network, from int, to int, routes []impl.Route) {
		list, d := sampleFormats()[next(8)], impl.Demand{From: from, To: to, Rate: 1 + next(impl.MaxRate)>>next(10), Class: next(3)}
		usable, slots := expectedUsable(n, list, routes, d.Rate)
		if from == to {
			checkFails(t, impl.UsableRoutes, n, list, d)
			checkFails(t, impl.CheapestRoute, n, list, d)
			return
		}
		check(t, impl.UsableRoutes, in(n, list, d), out(usable, slots, true))
		if best, _ := expectedCheapest(usable, slots); best < 0 {
			checkFails(t, impl.CheapestRoute, n, list, d)
		} else {
			check(t, impl.CheapestRoute, in(n, list, d), out(usable[best], slots[best], true))
		}
	})
}

func TestRoutesOfInvalidDemandsFail(t *testing.T) {
	for _, f := range []any{impl.UsableRoutes, impl.CheapestRoute} {
		for _, d := range badDemands() {
			checkFails(t, f, square(), formats(1000, 10), d)
		}
		for _, list := range badFormats() {
			checkFails(t, f, square(), list, demand(0, 1, 5))
		}
		for _, n := range brokenNetworks() {
			checkFails(t, f, n, formats(1000, 10), demand(0, 1, 5))
		}
	}
}

func TestCostBoundAndOrderDemands(t *testing.T) {
	n, list := square(), formats(1000, 10, 300, 20)
	check(t, impl.CostBound, in(n, list, []impl.Demand{demand(0, 1, 50), demand(0, 2, 50)}), out(9, true))
	check(t, impl.OrderDemands, in(n, list, []impl.Demand{demand(0, 1, 50), demand(0, 2, 50)}), out([]int{1, 0}, true))
	check(t, impl.CostBound, in(n, list, []impl.Demand{}), out(0, true))
	check(t, impl.OrderDemands, in(n, list, []impl.Demand{}), out([]int{}, true))
	// The costs are 3, 6, 3, 1, 6 and 3; equal ones stay in ascending order.
	costs := []impl.Demand{demand(0, 1, 50), demand(0, 2, 50), demand(1, 2, 60), demand(3, 2, 20), demand(2, 0, 41), demand(0, 3, 41)}
	check(t, impl.CostBound, in(n, list, costs), out(22, true))
	check(t, impl.OrderDemands, in(n, list, costs), out([]int{1, 4, 0, 2, 5, 3}, true))
	full := slices.Repeat([]impl.Demand{demand(0, 1, 50)}, impl.MaxDemands)
	check(t, impl.CostBound, in(n, list, full), out(36, true))
	check(t, impl.OrderDemands, in(n, list, full), out([]int{0, 1, 2, 3, 4, 5, 6, 7, 8, 9, 10, 11}, true))
	for _, f := range []any{impl.CostBound, impl.OrderDemands} {
		checkFails(t, f, n, list, append(full, demand(0, 1, 50)))
		checkFails(t, f, n, list, []impl.Demand{demand(0, 1, 50), demand(0, 2, 481), demand(0, 1, 50)})
		checkFails(t, f, parallels(), list, []impl.Demand{demand(0, 1, 50), demand(0, 3, 1)})
		for _, d := range badDemands() {
			checkFails(t, f, n, list, []impl.Demand{demand(0, 1, 50), d})
		}
		for _, bad := range badFormats() {
			checkFails(t, f, n, bad, []impl.Demand{demand(0, 1, 50)})
			checkFails(t, f, n, bad, []impl.Demand{})
		}
		for _, n := range brokenNetworks() {
			checkFails(t, f, n, list, []impl.Demand{})
		}
	}
}

func TestCostBoundAndOrderOfSamples(t *testing.T) {
	next := numbers(1010)
	for _, n := range append(sampleNetworks(), randomNetworks(60, 5)...) {
		list, demands := sampleFormats()[next(8)], randomDemands(n, next)
		bound, ok := 0, true
		costs := make([]int, len(demands))
		order := make([]int, len(demands))
		for i, d := range demands {
			usable, slots := expectedUsable(n, list, expectedAll(n, d.From, d.To), d.Rate)
			best, cost := expectedCheapest(usable, slots)
			ok = ok && best >= 0
			bound += cost
			costs[i], order[i] = cost, i
		}
		if !ok {
			checkFails(t, impl.CostBound, n, list, demands)
			checkFails(t, impl.OrderDemands, n, list, demands)
			continue
		}
		slices.SortFunc(order, func(i int, k int) int { return (costs[k]-costs[i])*100 + i - k })
		check(t, impl.CostBound, in(n, list, demands), out(bound, true))
		check(t, impl.OrderDemands, in(n, list, demands), out(order, true))
	}
}

// randomDemands returns up to four valid demands for a valid network.
func randomDemands(n impl.Network, next func(limit int) int) []impl.Demand {
	var list []impl.Demand
	for range next(5) {
		from := next(len(n.Nodes))
		to := (from + 1 + next(len(n.Nodes)-1)) % len(n.Nodes)
		list = append(list, impl.Demand{From: from, To: to, Rate: 1 + next(40), Class: next(3)})
	}
	return list
}

func TestTrafficBetween(t *testing.T) {
	n := square()
	list := []impl.Demand{demand(0, 1, 50), demand(1, 0, 7), demand(0, 2, 30), {From: 3, To: 2, Rate: 1000, Class: 2}, {From: 0, To: 1, Rate: 1, Class: 1}}
	check(t, impl.TrafficBetween, in(n, list), out([][]int{{0, 58, 30, 0}, {58, 0, 0, 0}, {30, 0, 0, 1000}, {0, 0, 1000, 0}}, true))
	check(t, impl.TrafficBetween, in(network("a b c"), []impl.Demand{}), out([][]int{{0, 0, 0}, {0, 0, 0}, {0, 0, 0}}, true))
	full := slices.Repeat([]impl.Demand{demand(1, 0, 1000)}, impl.MaxDemands)
	check(t, impl.TrafficBetween, in(network("a b"), full), out([][]int{{0, 12000}, {12000, 0}}, true))
	checkFails(t, impl.TrafficBetween, network("a b"), append(full, demand(0, 1, 1)))
	for _, d := range badDemands() {
		checkFails(t, impl.TrafficBetween, n, []impl.Demand{demand(0, 1, 1), d})
	}
	for _, n := range brokenNetworks() {
		checkFails(t, impl.TrafficBetween, n, []impl.Demand{})
	}
}
