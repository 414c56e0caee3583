package tests

import (
	"math/big"
	"slices"
	"testing"

	"loop.example/g00897/impl"
)

// The tests of this file compare every function of chapter 16 with what the document states:
// ordinary inputs, the edge cases that the chapter names, and invalid inputs.

func outage(unit int, down ...int) impl.Outage { return impl.Outage{Unit: unit, Down: down} }

// groupCount returns the number of risk groups of a valid network.
func groupCount(n impl.Network) int {
	groups, _ := impl.RiskGroups(n)
	return len(groups)
}

// randomOutage returns a valid outage in which some groups never and some always fail.
func randomOutage(n impl.Network, next func(limit int) int) impl.Outage {
	o := outage([]int{2, 3, 7, 10, impl.MaxUnit}[next(5)])
	for range groupCount(n) {
		o.Down = append(o.Down, []int{0, o.Unit, 1, next(o.Unit + 1), next(o.Unit + 1), next(o.Unit + 1)}[next(6)])
	}
	return o
}

// badOutages returns outages that are not valid for the square, which has three risk groups.
func badOutages() []impl.Outage {
	return []impl.Outage{{}, outage(10), outage(10, 1), outage(10, 1, 1), outage(10, 1, 1, 1, 1), outage(1, 1, 1, 1), outage(1, 0, 0, 0), outage(0, 0, 0, 0), outage(-1, 0, 0, 0),
		outage(21, 1, 1, 1), outage(maxInt, 1, 1, 1), outage(minInt, 1, 1, 1), outage(10, -1, 1, 1), outage(10, 1, -1, 1), outage(10, 1, 1, 11), outage(10, 11, 1, 1),
		outage(10, 1, maxInt, 1), outage(10, minInt, 1, 1), outage(2, 3, 0, 0), outage(20, 0, 21, 0)}
}

// A state is a set of risk groups that fail, with its weight and the fibers of the groups.
type state struct {
	groups []int
	weight int
	gone   []int
}

// statesOf returns all sets of risk groups in ascending order of their numbers.
func statesOf(n impl.Network, o impl.Outage) []state {
	var states []state
	for number := range 1 << len(o.Down) {
		s := state{groups: []int{}, weight: 1}
		for g, down := range o.Down {
			if number>>g&1 == 1 {
				s.groups = append(s.groups, g)
				s.weight *= down
			} else {
				s.weight *= o.Unit - down
			}
		}
		s.gone = goneWith(n, s.groups)
		states = append(states, s)
	}
	return states
}

// expectedSum adds the weights of the states that are good.
func expectedSum(states []state, good func(s state) bool) int {
	sum := 0
	for _, s := range states {
		if good(s) {
			sum += s.weight
		}
	}
	return sum
}

// connects reports whether two nodes are connected in a state.
func connects(n impl.Network, s state, a int, b int) bool {
	smallest := expectedComponents(n, s.gone)
	return smallest[a] == smallest[b]
}

// expectedCut returns the first state with the greatest weight in which two nodes are not connected.
func expectedCut(n impl.Network, states []state, a int, b int) state {
	best := state{weight: -1}
	for _, s := range states {
		if s.weight > best.weight && !connects(n, s, a, b) {
			best = s
		}
	}
	return best
}

// manyGroups is the network with the most fibers, each of which is a risk group.
func manyGroups() impl.Network {
	n := largest()
	for i := range n.Fibers {
		n.Fibers[i].Risk = 0
	}
	return n
}

func TestIsValidOutage(t *testing.T) {
	n := square()
	for unit := -1; unit <= impl.MaxUnit+2; unit++ {
		check(t, impl.IsValidOutage, in(n, outage(unit, 0, 1, 1)), out(unit >= 2 && unit <= impl.MaxUnit))
		check(t, impl.IsValidOutage, in(n, outage(unit, unit, 0, 0)), out(unit >= 2 && unit <= impl.MaxUnit))
	}
	for down := -2; down <= 12; down++ {
		check(t, impl.IsValidOutage, in(n, outage(10, 3, down, 4)), out(down >= 0 && down <= 10))
	}
	for count := range 6 {
		check(t, impl.IsValidOutage, in(n, outage(10, slices.Repeat([]int{1}, count)...)), out(count == 3))
	}
	for _, o := range badOutages() {
		check(t, impl.IsValidOutage, in(n, o), out(false))
	}
	for _, n := range sampleNetworks() {
		groups := groupCount(n)
		check(t, impl.IsValidOutage, in(n, outage(2, make([]int, groups)...)), out(true))
		check(t, impl.IsValidOutage, in(n, outage(2, make([]int, groups+1)...)), out(false))
	}
	for _, n := range brokenNetworks() {
		check(t, impl.IsValidOutage, in(n, outage(10)), out(false))
		check(t, impl.IsValidOutage, in(n, outage(10, 1)), out(false))
	}
}

func TestStateWeight(t *testing.T) {
	n, o := square(), outage(10, 1, 2, 3)
	for _, x := range []struct {
		failed []int
		weight int
	}{{nil, 504}, {[]int{0}, 56}, {[]int{1}, 126}, {[]int{2}, 216}, {[]int{0, 1}, 14}, {[]int{1, 2}, 54}, {[]int{0, 1, 2}, 6}} {
		check(t, impl.StateWeight, in(n, o, x.failed), out(x.weight, true))
	}
	// Groups that never or always fail.
	check(t, impl.StateWeight, in(n, outage(10, 0, 10, 3), []int{1}), out(700, true))
	check(t, impl.StateWeight, in(n, outage(10, 0, 10, 3), []int{0, 1}), out(0, true))
	check(t, impl.StateWeight, in(n, outage(10, 0, 10, 3), []int{}), out(0, true))
	check(t, impl.StateWeight, in(network("a b"), outage(2), []int{}), out(1, true))
	// The greatest weights.
	full := outage(impl.MaxUnit, make([]int, impl.MaxFibers)...)
	check(t, impl.StateWeight, in(manyGroups(), full, []int{}), out(1638400000000000000, true))
	for i := range full.Down {
		full.Down[i] = impl.MaxUnit
	}
	check(t, impl.StateWeight, in(manyGroups(), full, upTo(impl.MaxFibers)), out(1638400000000000000, true))
	for _, failed := range [][]int{{3}, {-1}, {0, 0}, {1, 0}, {0, 1, 2, 3}, {0, maxInt}, {minInt}} {
		checkFails(t, impl.StateWeight, n, o, failed)
	}
	checkFails(t, impl.StateWeight, network("a b"), outage(2), []int{0})
}

func TestAvailabilityOfRoutes(t *testing.T) {
	n, o := square(), outage(10, 1, 2, 3)
	check(t, impl.RouteAvailability, in(n, o, route(0, 0, 2)), out(560, true))
	check(t, impl.RouteAvailability, in(n, o, route(0, 1)), out(900, true))
	// Both fibers of the route are in one group.
	check(t, impl.RouteAvailability, in(n, o, route(0, 1, 3)), out(900, true))
	check(t, impl.RouteAvailability, in(n, o, route(3, 3, 2, 0)), out(504, true))
	check(t, impl.PairAvailability, in(n, o, route(0, 0, 2), route(0, 1, 3)), out(956, true))
	check(t, impl.PairAvailability, in(n, o, route(0, 1, 3), route(0, 0, 2)), out(956, true))
	// Two equal routes, or routes with a common group, or with other ends.
	check(t, impl.PairAvailability, in(n, o, route(0, 0, 2), route(0, 0, 2)), out(560, true))
	check(t, impl.PairAvailability, in(n, o, route(0, 1), route(0, 0, 2, 3)), out(900, true))
	check(t, impl.PairAvailability, in(n, o, route(0, 1), route(2, 3)), out(900, true))
	check(t, impl.PairAvailability, in(n, o, route(0, 0), route(1, 2)), out(940, true))
	check(t, impl.RouteAvailability, in(n, outage(10, 0, 10, 3), route(0, 1)), out(1000, true))
	check(t, impl.RouteAvailability, in(n, outage(10, 0, 10, 3), route(0, 0)), out(0, true))
	check(t, impl.PairAvailability, in(n, outage(10, 0, 10, 3), route(0, 0), route(0, 1)), out(1000, true))
	for _, r := range badRoutes() {
		checkFails(t, impl.RouteAvailability, n, o, r)
		checkFails(t, impl.PairAvailability, n, o, r, route(0, 0))
		checkFails(t, impl.PairAvailability, n, o, route(0, 0), r)
	}
}

func TestAvailabilityOfNodes(t *testing.T) {
	n, o := square(), outage(10, 1, 2, 3)
	check(t, impl.ConnectionAvailability, in(n, o, 0, 2), out(956, true))
	check(t, impl.ConnectionAvailability, in(n, o, 3, 0), out(900, true))
	check(t, impl.ConnectionAvailability, in(n, o, 0, 1), out(926, true))
	check(t, impl.NetworkAvailability, in(n, o), out(846, true))
	check(t, impl.GroupImportance, in(n, o, 0, 2, 0), out(440, true))
	check(t, impl.GroupImportance, in(n, o, 0, 2, 1), out(70, true))
	check(t, impl.GroupImportance, in(n, o, 0, 2, 2), out(80, true))
	check(t, impl.GroupImportance, in(n, o, 0, 3, 1), out(0, true))
	// The importance of a group does not depend on how often it fails.
	check(t, impl.GroupImportance, in(n, outage(10, 10, 2, 3), 0, 2, 0), out(440, true))
	check(t, impl.GroupImportance, in(n, outage(10, 0, 2, 3), 0, 2, 0), out(440, true))
	// Nodes that are not connected, and networks without fibers.
	check(t, impl.ConnectionAvailability, in(parallels(), outage(2, 1, 1, 1, 1, 1), 0, 3), out(0, true))
	check(t, impl.NetworkAvailability, in(parallels(), outage(2, 1, 1, 1, 1, 1)), out(0, true))
	check(t, impl.GroupImportance, in(parallels(), outage(2, 1, 1, 1, 1, 1), 0, 3, 4), out(0, true))
	check(t, impl.ConnectionAvailability, in(network("a b"), outage(7), 1, 0), out(0, true))
	check(t, impl.NetworkAvailability, in(network("a b"), outage(7)), out(0, true))
	// All groups never or always fail.
	check(t, impl.NetworkAvailability, in(n, outage(20, 0, 0, 0)), out(8000, true))
	check(t, impl.NetworkAvailability, in(n, outage(20, 20, 20, 20)), out(0, true))
	check(t, impl.ConnectionAvailability, in(n, outage(20, 20, 0, 0), 0, 2), out(8000, true))
	for _, group := range []int{3, -1, minInt, maxInt} {
		checkFails(t, impl.GroupImportance, n, o, 0, 2, group)
	}
	checkFails(t, impl.GroupImportance, network("a b"), outage(2), 0, 1, 0)
}

func TestAvailabilityOfTheMostGroups(t *testing.T) {
	n, o := manyGroups(), outage(impl.MaxUnit)
	for i := range n.Fibers {
		o.Down = append(o.Down, (i*7+3)%20)
	}
	check(t, impl.RouteAvailability, in(n, o, route(0, 3)), out(1638400000000000000/20*(20-o.Down[3]), true))
	never := outage(impl.MaxUnit, make([]int, impl.MaxFibers)...)
	check(t, impl.ConnectionAvailability, in(n, never, 0, 6), out(1638400000000000000, true))
	check(t, impl.NetworkAvailability, in(n, never), out(1638400000000000000, true))
	states := statesOf(n, o)
	check(t, impl.ConnectionAvailability, in(n, o, 0, 6), out(expectedSum(states, func(s state) bool { return connects(n, s, 0, 6) }), true))
	best := expectedCut(n, states, 0, 6)
	check(t, impl.LikeliestCut, in(n, o, 0, 6), out(best.groups, best.weight, true))
}

func TestLikeliestCut(t *testing.T) {
	n, o := square(), outage(10, 1, 2, 3)
	check(t, impl.LikeliestCut, in(n, o, 0, 2), out([]int{0, 2}, 24, true))
	check(t, impl.LikeliestCut, in(n, o, 0, 3), out([]int{0}, 56, true))
	check(t, impl.LikeliestCut, in(n, o, 0, 1), out([]int{1, 2}, 54, true))
}

// TestLikeliestCutTies has cuts with equal weights, and cuts that are no failure of their own.
func TestLikeliestCutTies(t *testing.T) {
	n := square()
	check(t, impl.LikeliestCut, in(n, outage(10, 1, 2, 2), 0, 2), out([]int{0, 1}, 16, true))
	check(t, impl.LikeliestCut, in(n, outage(2, 1, 1, 1), 0, 2), out([]int{0, 1}, 1, true))
	check(t, impl.LikeliestCut, in(n, outage(2, 1, 1, 1), 0, 3), out([]int{0}, 1, true))
	// All cuts have the weight 0, or the likeliest one has a group more than needed.
	check(t, impl.LikeliestCut, in(n, outage(10, 0, 2, 3), 0, 3), out([]int{0}, 0, true))
	check(t, impl.LikeliestCut, in(n, outage(10, 0, 0, 0), 0, 2), out([]int{0, 1}, 0, true))
	check(t, impl.LikeliestCut, in(n, outage(10, 1, 9, 8), 0, 3), out([]int{0, 1, 2}, 72, true))
	// Nodes that are not connected anyway.
	check(t, impl.LikeliestCut, in(parallels(), outage(10, 1, 1, 1, 1, 1), 0, 3), out([]int{}, 59049, true))
	check(t, impl.LikeliestCut, in(network("a b"), outage(2), 0, 1), out([]int{}, 1, true))
	check(t, impl.LikeliestCut, in(parallels(), outage(2, 1, 1, 1, 1, 2), 3, 0), out([]int{4}, 2, true))
}

func TestMeetsTarget(t *testing.T) {
	n, o := square(), outage(10, 1, 2, 3)
	for value := 0; value <= 1000; value += 1 + value%7 {
		for _, x := range [][2]int{{0, 1}, {1, 1}, {1, 2}, {1, 3}, {2, 3}, {999, 1000}, {1, 1000}, {1000, 1000}, {0, 1000}, {47, 50}, {956, 1000}, {7, 999}} {
			check(t, impl.MeetsTarget, in(n, o, value, x[0], x[1]), out(value*x[1] >= x[0]*1000, true))
		}
	}
	// Met exactly, and missed by one.
	check(t, impl.MeetsTarget, in(n, o, 956, 239, 250), out(true, true))
	check(t, impl.MeetsTarget, in(n, o, 955, 239, 250), out(false, true))
	check(t, impl.MeetsTarget, in(n, o, 1000, 1, 1), out(true, true))
	check(t, impl.MeetsTarget, in(n, o, 999, 1, 1), out(false, true))
	check(t, impl.MeetsTarget, in(network("a b"), outage(2), 1, 1, 1), out(true, true))
	check(t, impl.MeetsTarget, in(network("a b"), outage(2), 0, 1, 1000), out(false, true))
	for _, x := range [][3]int{{-1, 1, 2}, {1001, 1, 2}, {minInt, 0, 1}, {maxInt, 0, 1}, {500, -1, 2}, {500, 3, 2}, {500, 0, 0}, {500, 1, -1}, {500, 1, 1001}, {500, 1001, 1001},
		{500, minInt, 1}, {500, maxInt, maxInt}, {500, 0, minInt}, {500, 1, maxInt}, {500, -5, -2}} {
		checkFails(t, impl.MeetsTarget, n, o, x[0], x[1], x[2])
	}
	checkFails(t, impl.MeetsTarget, network("a b"), outage(2), 2, 1, 2)
}

// TestMeetsTargetOfTheMostGroups compares fractions whose products have more than 64 bits.
func TestMeetsTargetOfTheMostGroups(t *testing.T) {
	n, o := manyGroups(), outage(impl.MaxUnit, make([]int, impl.MaxFibers)...)
	const whole = 1638400000000000000
	for _, den := range []int{1, 2, 3, 7, 125, 999, 1000} {
		for num := 0; num <= den; num += 1 + den/9 {
			least := new(big.Int).Mul(big.NewInt(whole), big.NewInt(int64(num)))
			quotient, rest := least.DivMod(least, big.NewInt(int64(den)), new(big.Int))
			value := int(quotient.Int64())
			check(t, impl.MeetsTarget, in(n, o, value, num, den), out(rest.Sign() == 0, true))
			if value > 0 {
				check(t, impl.MeetsTarget, in(n, o, value-1, num, den), out(false, true))
			}
			if value < whole {
				check(t, impl.MeetsTarget, in(n, o, value+1, num, den), out(true, true))
			}
		}
	}
	checkFails(t, impl.MeetsTarget, n, o, whole+1, 1, 2)
}

func TestAvailabilityOfSamples(t *testing.T) {
	next := numbers(16)
	for _, n := range append(sampleNetworks(), randomNetworks(40, 5)...) {
		if groupCount(n) > 9 {
			continue
		}
		o := randomOutage(n, next)
		states := statesOf(n, o)
		for _, s := range states[:min(len(states), 40)] {
			check(t, impl.StateWeight, in(n, o, s.groups), out(s.weight, true))
		}
		check(t, impl.NetworkAvailability, in(n, o), out(expectedSum(states, func(s state) bool { return slices.Max(expectedComponents(n, s.gone)) == 0 }), true))
		routes := expectedRoutes(n)
		for i := 0; i < len(routes); i += 1 + len(routes)/6 {
			a, b := routes[i], routes[next(len(routes))]
			check(t, impl.RouteAvailability, in(n, o, a), out(expectedSum(states, func(s state) bool { return !have(s.gone, a.Fibers) }), true))
			check(t, impl.PairAvailability, in(n, o, a, b), out(expectedSum(states, func(s state) bool { return !have(s.gone, a.Fibers) || !have(s.gone, b.Fibers) }), true))
		}
		for range 3 {
			from := next(len(n.Nodes))
			compareConnection(t, n, o, from, (from+1+next(len(n.Nodes)-1))%len(n.Nodes))
		}
	}
}

// compareConnection compares everything that depends on an outage and two nodes.
func compareConnection(t *testing.T, n impl.Network, o impl.Outage, from int, to int) {
	t.Helper()
	expected := func(o impl.Outage) int {
		return expectedSum(statesOf(n, o), func(s state) bool { return connects(n, s, from, to) })
	}
	check(t, impl.ConnectionAvailability, in(n, o, from, to), out(expected(o), true))
	best := expectedCut(n, statesOf(n, o), from, to)
	check(t, impl.LikeliestCut, in(n, o, from, to), out(best.groups, best.weight, true))
	for g := range o.Down {
		never, always := outage(o.Unit, slices.Clone(o.Down)...), outage(o.Unit, slices.Clone(o.Down)...)
		never.Down[g], always.Down[g] = 0, o.Unit
		check(t, impl.GroupImportance, in(n, o, from, to, g), out(expected(never)-expected(always), true))
	}
}

func TestAvailabilityFails(t *testing.T) {
	failing := func(n impl.Network, o impl.Outage) {
		checkFails(t, impl.StateWeight, n, o, []int{})
		checkFails(t, impl.RouteAvailability, n, o, route(0, 0))
		checkFails(t, impl.PairAvailability, n, o, route(0, 0), route(0, 0))
		checkFails(t, impl.ConnectionAvailability, n, o, 0, 1)
		checkFails(t, impl.NetworkAvailability, n, o)
		checkFails(t, impl.GroupImportance, n, o, 0, 1, 0)
		checkFails(t, impl.LikeliestCut, n, o, 0, 1)
		checkFails(t, impl.MeetsTarget, n, o, 0, 0, 1)
	}
	for _, o := range badOutages() {
		failing(square(), o)
	}
	for _, n := range brokenNetworks() {
		failing(n, outage(10, slices.Repeat([]int{1}, len(n.Fibers))...))
	}
	n, o := square(), outage(10, 1, 2, 3)
	for _, x := range [][2]int{{-1, 0}, {0, -1}, {4, 0}, {0, 4}, {2, 2}, {minInt, maxInt}, {maxInt, 0}, {-1, -1}} {
		checkFails(t, impl.ConnectionAvailability, n, o, x[0], x[1])
		checkFails(t, impl.GroupImportance, n, o, x[0], x[1], 0)
		checkFails(t, impl.LikeliestCut, n, o, x[0], x[1])
	}
}
