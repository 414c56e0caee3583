package tests

import (
	"slices"
	"testing"

	"loop.example/g00897/impl"
)

// The tests of this file compare every function of chapter 26 with what the document states:
// ordinary inputs, the edge cases that the chapter names, and invalid inputs.

func growth(from int, to int, rate int, start int, end int) impl.Growth {
	return impl.Growth{Demand: demand(from, to, rate), Start: start, End: end}
}

func growths(list ...impl.Growth) []impl.Growth { return list }

// tens are formats with 10 in a slot over every distance.
func tens() []impl.Format { return formats(20000, 10) }

// badGrowths returns Growths that are not valid for the square.
func badGrowths() []impl.Growth {
	var list []impl.Growth
	for _, d := range badDemands() {
		list = append(list, impl.Growth{Demand: d, Start: 2, End: 3})
	}
	for _, x := range [][2]int{{-1, 3}, {3, 2}, {7, 8}, {8, 8}, {0, 8}, {-2, -1}, {1, 0}, {minInt, 3}, {3, minInt}, {3, maxInt}, {maxInt, 3}, {maxInt, maxInt}, {minInt, maxInt}} {
		list = append(list, growth(0, 1, 5, x[0], x[1]))
	}
	return list
}

// expectedPeriods returns the plans of all periods and the blocked Growths. For every Growth it
// looks for a light on the first day, which all lights that are wanted then leave free.
func expectedPeriods(n impl.Network, list []impl.Format, all []impl.Growth) ([]impl.Plan, []int) {
	lights := make([]impl.Light, len(all))
	isBlocked := make([]bool, len(all))
	var plans []impl.Plan
	for period := range impl.MaxPeriods {
		for i, g := range all {
			if g.Start != period {
				continue
			}
			now := plan(n)
			for k, other := range all {
				begun := other.Start < period || other.Start == period && k < i
				if begun && other.End >= period && !isBlocked[k] {
					now.Lights = append(now.Lights, lights[k])
				}
			}
			if possible := expectedPossible(now, list, g.Demand, impl.FitFirst); len(possible) > 0 {
				lights[i] = possible[0]
				lights[i].Id = i + 1
			} else {
				isBlocked[i] = true
			}
		}
		p := plan(n)
		for i, g := range all {
			if g.Start <= period && period <= g.End && !isBlocked[i] {
				p.Lights = append(p.Lights, lights[i])
			}
		}
		plans = append(plans, p)
	}
	blocked := []int{}
	for i := range all {
		if isBlocked[i] {
			blocked = append(blocked, i)
		}
	}
	return plans, blocked
}

// comparePeriods compares everything that follows from the plans of all periods.
func comparePeriods(t *testing.T, n impl.Network, list []impl.Format, all []impl.Growth) []int {
	t.Helper()
	plans, blocked := expectedPeriods(n, list, all)
	check(t, impl.BlockedGrowth, in(n, list, all), out(blocked, true))
	history, upgrades := []int{}, [][]int{}
	for limit := range impl.MaxSlots + 1 {
		upgrades = append(upgrades, slices.Repeat([]int{-1}, len(n.Fibers)))
		for fiber := range n.Fibers {
			for period := impl.MaxPeriods - 1; period >= 0; period-- {
				if slotsOn(plans[period], fiber) > limit {
					upgrades[limit][fiber] = period
				}
			}
		}
	}
	peak := [3]int{0, 0, -1}
	for period, p := range plans {
		check(t, impl.PlanAt, in(n, list, all, period), out(p, true))
		history = append(history, slotsUsed(p))
		for fiber := range n.Fibers {
			if slots := slotsOn(p, fiber); slots > peak[2] {
				peak = [3]int{fiber, period, slots}
			}
		}
	}
	check(t, impl.UseHistory, in(n, list, all), out(history, true))
	for _, limit := range []int{0, 1, 3, 10, impl.MaxSlots - 1, impl.MaxSlots} {
		check(t, impl.UpgradePeriods, in(n, list, all, limit), out(upgrades[limit], true))
	}
	if len(n.Fibers) > 0 {
		check(t, impl.PeakFiber, in(n, list, all), out(peak[0], peak[1], peak[2], true))
	} else {
		checkFails(t, impl.PeakFiber, n, list, all)
	}
	rate := 0
	for i, g := range all {
		if !slices.Contains(blocked, i) {
			rate += g.Demand.Rate * (g.End - g.Start + 1)
		}
	}
	check(t, impl.CarriedRate, in(n, list, all), out(rate, true))
	return blocked
}

// slotsOn returns the number of slots that lights occupy on a fiber.
func slotsOn(p impl.Plan, fiber int) int {
	count := 0
	for _, x := range p.Lights {
		for _, s := range slotsOf(x) {
			if s[0] == fiber {
				count++
			}
		}
	}
	return count
}

func TestIsValidGrowth(t *testing.T) {
	n := square()
	valid := [][]impl.Growth{{}, growths(growth(0, 1, 5, 0, 7)), growths(growth(3, 0, 1000, 0, 0), growth(0, 1, 1, 7, 7)), growths(growth(0, 1, 5, 3, 4), growth(0, 1, 5, 2, 3))}
	valid = append(valid, slices.Repeat(growths(growth(0, 1, 5, 1, 1)), impl.MaxDemands), growths(impl.Growth{Demand: impl.Demand{From: 0, To: 1, Rate: 5, Class: impl.ClassShared}}))
	for _, list := range valid {
		check(t, impl.IsValidGrowth, in(n, list), out(true))
	}
	invalid := [][]impl.Growth{slices.Repeat(growths(growth(0, 1, 5, 1, 1)), impl.MaxDemands+1)}
	for _, g := range badGrowths() {
		invalid = append(invalid, growths(g), growths(growth(0, 1, 5, 0, 7), g), growths(g, growth(0, 1, 5, 0, 7)))
	}
	for _, list := range invalid {
		check(t, impl.IsValidGrowth, in(n, list), out(false))
		checkAllFail(t, n, tens(), list)
		checkFails(t, impl.ActiveGrowth, n, list, 2)
		checkFails(t, impl.DelayGrowth, n, list, 0, 0)
		checkFails(t, impl.DelayGrowth, n, list, len(list)-1, 1)
	}
	for _, n := range brokenNetworks() {
		for _, list := range [][]impl.Growth{{}, growths(growth(0, 1, 5, 0, 7))} {
			check(t, impl.IsValidGrowth, in(n, list), out(false))
			checkAllFail(t, n, tens(), list)
			checkFails(t, impl.ActiveGrowth, n, list, 2)
			checkFails(t, impl.DelayGrowth, n, list, 0, 0)
		}
	}
	for _, list := range badFormats() {
		checkAllFail(t, n, list, growths(growth(0, 1, 5, 0, 7)))
		checkAllFail(t, n, list, growths())
	}
}

// checkAllFail calls all functions that plan.
func checkAllFail(t *testing.T, n impl.Network, list []impl.Format, all []impl.Growth) {
	t.Helper()
	checkFails(t, impl.PlanAt, n, list, all, 0)
	checkFails(t, impl.PlanAt, n, list, all, 7)
	for _, f := range []any{impl.BlockedGrowth, impl.UseHistory, impl.PeakFiber, impl.CarriedRate} {
		checkFails(t, f, n, list, all)
	}
	checkFails(t, impl.UpgradePeriods, n, list, all, 10)
}

func TestActiveGrowth(t *testing.T) {
	n := square()
	list := growths(growth(0, 1, 5, 0, 7), growth(0, 1, 5, 2, 3), growth(0, 1, 5, 3, 3), growth(0, 1, 1000, 4, 7))
	for period, want := range [][]int{{0}, {0}, {0, 1}, {0, 1, 2}, {0, 3}, {0, 3}, {0, 3}, {0, 3}} {
		check(t, impl.ActiveGrowth, in(n, list, period), out(want, true))
		check(t, impl.ActiveGrowth, in(n, growths(), period), out([]int{}, true))
	}
	for _, period := range []int{-1, impl.MaxPeriods, minInt, maxInt} {
		checkFails(t, impl.ActiveGrowth, n, list, period)
		checkFails(t, impl.PlanAt, n, tens(), list, period)
		checkFails(t, impl.ActiveGrowth, n, growths(), period)
		checkFails(t, impl.PlanAt, n, tens(), growths(), period)
	}
}

func TestPlanAt(t *testing.T) {
	n := network("a b", [4]int{0, 1, 100})
	at := func(id int, first int, count int) impl.Light { return light(id, route(0, 0), first, count) }
	// A demand that begins when another one ends gets its slots, and one that begins before does not.
	list := growths(growth(0, 1, 100, 0, 2), growth(0, 1, 80, 3, 4), growth(0, 1, 50, 2, 7))
	check(t, impl.PlanAt, in(n, tens(), list, 0), out(plan(n, at(1, 0, 10)), true))
	check(t, impl.PlanAt, in(n, tens(), list, 2), out(plan(n, at(1, 0, 10), at(3, 10, 5)), true))
	check(t, impl.PlanAt, in(n, tens(), list, 3), out(plan(n, at(2, 0, 8), at(3, 10, 5)), true))
	check(t, impl.PlanAt, in(n, tens(), list, 4), out(plan(n, at(2, 0, 8), at(3, 10, 5)), true))
	check(t, impl.PlanAt, in(n, tens(), list, 5), out(plan(n, at(3, 10, 5)), true))
	check(t, impl.PlanAt, in(n, tens(), list, 7), out(plan(n, at(3, 10, 5)), true))
	check(t, impl.UseHistory, in(n, tens(), list), out([]int{10, 10, 15, 13, 13, 5, 5, 5}, true))
	check(t, impl.PeakFiber, in(n, tens(), list), out(0, 2, 15, true))
	check(t, impl.CarriedRate, in(n, tens(), list), out(100*3+80*2+50*6, true))
	// A Growth that is blocked gets no light in any period, though there is room later; the next one
	// in the same period may get one.
	list = growths(growth(0, 1, 200, 0, 1), growth(0, 1, 50, 1, 7), growth(0, 1, 40, 1, 3), growth(0, 1, 240, 4, 4))
	check(t, impl.BlockedGrowth, in(n, tens(), list), out([]int{1}, true))
	check(t, impl.PlanAt, in(n, tens(), list, 1), out(plan(n, at(1, 0, 20), at(3, 20, 4)), true))
	check(t, impl.PlanAt, in(n, tens(), list, 3), out(plan(n, at(3, 20, 4)), true))
	check(t, impl.PlanAt, in(n, tens(), list, 4), out(plan(n, at(4, 0, 24)), true))
	check(t, impl.PlanAt, in(n, tens(), list, 5), out(plan(n), true))
	check(t, impl.CarriedRate, in(n, tens(), list), out(200*2+40*3+240, true))
	// Blocked Growths in ascending order, though the later one is considered first.
	list = growths(growth(0, 1, 240, 3, 5), growth(0, 1, 10, 5, 7), growth(0, 1, 240, 2, 4), growth(0, 1, 10, 4, 4), growth(0, 1, 10, 2, 2))
	check(t, impl.BlockedGrowth, in(n, tens(), list), out([]int{0, 3, 4}, true))
	// Demands without a usable route, and without any route.
	list = growths(growth(0, 1, 241, 0, 7), growth(1, 0, 240, 7, 7))
	check(t, impl.BlockedGrowth, in(n, tens(), list), out([]int{0}, true))
	check(t, impl.CarriedRate, in(n, tens(), list), out(240, true))
	list = growths(growth(0, 1, 1, 0, 7), growth(1, 0, 240, 6, 7))
	check(t, impl.BlockedGrowth, in(network("a b"), tens(), list), out([]int{0, 1}, true))
	check(t, impl.UseHistory, in(network("a b"), tens(), list), out(make([]int, 8), true))
	check(t, impl.UpgradePeriods, in(network("a b"), tens(), list, 0), out([]int{}, true))
	check(t, impl.CarriedRate, in(network("a b"), tens(), list), out(0, true))
	checkFails(t, impl.PeakFiber, network("a b"), tens(), list)
	check(t, impl.BlockedGrowth, in(n, formats(99, 10), list), out([]int{0, 1}, true))
}

// TestPlanAtTakesTheCheapestRoute has routes that differ in their costs.
func TestPlanAtTakesTheCheapestRoute(t *testing.T) {
	n := diagonal()
	list := growths(growth(0, 2, 200, 0, 3), growth(0, 2, 200, 1, 1), growth(0, 2, 50, 4, 7))
	first, second := light(1, route(0, 1), 0, 20), light(2, route(0, 0, 3), 0, 20)
	check(t, impl.PlanAt, in(n, formats(1000, 10), list, 0), out(plan(n, first), true))
	check(t, impl.PlanAt, in(n, formats(1000, 10), list, 1), out(plan(n, first, second), true))
	check(t, impl.PlanAt, in(n, formats(1000, 10), list, 4), out(plan(n, light(3, route(0, 1), 0, 5)), true))
	// Of the routes with equal costs the first one in the order of routes, which is a-b-c here.
	check(t, impl.PlanAt, in(n, formats(1000, 10, 200, 20), list, 0), out(plan(n, light(1, route(0, 0, 3), 0, 10)), true))
	comparePeriods(t, n, formats(1000, 10, 200, 20), list)
}

func TestNoGrowths(t *testing.T) {
	for _, n := range []impl.Network{square(), network("a b"), largest()} {
		if blocked := comparePeriods(t, n, tens(), growths()); len(blocked) > 0 {
			t.Errorf("%v are blocked", blocked)
		}
	}
	check(t, impl.PeakFiber, in(square(), tens(), growths()), out(0, 0, 0, true))
	check(t, impl.UpgradePeriods, in(square(), tens(), growths(), 0), out([]int{-1, -1, -1, -1}, true))
	check(t, impl.UseHistory, in(square(), tens(), growths()), out(make([]int, 8), true))
}

func TestPeakFiberAndUpgradePeriods(t *testing.T) {
	n := strands(0, 0, 0)
	// Ties of periods and of fibers: the earliest period, and in it the smallest fiber.
	list := growths(growth(0, 1, 200, 2, 2), growth(0, 1, 200, 3, 3), growth(0, 1, 200, 3, 3), growth(0, 1, 60, 0, 0))
	check(t, impl.PeakFiber, in(n, tens(), list), out(0, 2, 20, true))
	list = growths(growth(0, 1, 150, 2, 2), growth(0, 1, 200, 2, 7), growth(0, 1, 200, 4, 5))
	check(t, impl.PeakFiber, in(n, tens(), list), out(1, 2, 20, true))
	check(t, impl.UpgradePeriods, in(n, tens(), list, 0), out([]int{2, 2, -1}, true))
	check(t, impl.UpgradePeriods, in(n, tens(), list, 14), out([]int{2, 2, -1}, true))
	check(t, impl.UpgradePeriods, in(n, tens(), list, 15), out([]int{4, 2, -1}, true))
	check(t, impl.UpgradePeriods, in(n, tens(), list, 19), out([]int{4, 2, -1}, true))
	check(t, impl.UpgradePeriods, in(n, tens(), list, 20), out([]int{-1, -1, -1}, true))
	check(t, impl.UpgradePeriods, in(n, tens(), list, 24), out([]int{-1, -1, -1}, true))
	full := growths(growth(0, 1, 240, 7, 7))
	check(t, impl.UpgradePeriods, in(n, tens(), full, 23), out([]int{7, -1, -1}, true))
	check(t, impl.UpgradePeriods, in(n, tens(), full, 24), out([]int{-1, -1, -1}, true))
	for _, limit := range []int{-1, impl.MaxSlots + 1, minInt, maxInt} {
		checkFails(t, impl.UpgradePeriods, n, tens(), list, limit)
		checkFails(t, impl.UpgradePeriods, n, tens(), growths(), limit)
	}
}

func TestDelayGrowth(t *testing.T) {
	n := square()
	a, b := growth(0, 1, 5, 2, 4), growth(1, 3, 9, 0, 7)
	list := growths(a, b)
	for _, periods := range []int{-2, -1, 0, 1, 2, 3} {
		check(t, impl.DelayGrowth, in(n, list, 0, periods), out(growths(growth(0, 1, 5, 2+periods, 4+periods), b), true))
	}
	check(t, impl.DelayGrowth, in(n, list, 1, 0), out(list, true))
	// Delays that lead out of the periods.
	for _, periods := range []int{-3, 4, 8, -8, minInt, maxInt, maxInt - 1, maxInt - 2, maxInt - 4, minInt + 3} {
		checkFails(t, impl.DelayGrowth, n, list, 0, periods)
	}
	checkFails(t, impl.DelayGrowth, n, list, 1, 1)
	checkFails(t, impl.DelayGrowth, n, list, 1, -1)
	for _, i := range []int{-1, 2, minInt, maxInt} {
		checkFails(t, impl.DelayGrowth, n, list, i, 0)
		checkFails(t, impl.DelayGrowth, n, growths(), i, 0)
	}
	checkFails(t, impl.DelayGrowth, n, growths(), 0, 0)
	// Exactly MaxDemands Growths.
	many := slices.Repeat(growths(a), impl.MaxDemands)
	want := slices.Clone(many)
	want[11] = growth(0, 1, 5, 5, 7)
	check(t, impl.DelayGrowth, in(n, many, 11, 3), out(want, true))
}

// randomGrowths returns count valid Growths for a valid network.
func randomGrowths(n impl.Network, count int, next func(limit int) int) []impl.Growth {
	list := growths()
	for range count {
		from, start := next(len(n.Nodes)), next(impl.MaxPeriods)
		to := (from + 1 + next(len(n.Nodes)-1)) % len(n.Nodes)
		g := growth(from, to, 1+next(120), start, start+next(impl.MaxPeriods-start))
		g.Demand.Class = next(3)
		list = append(list, g)
	}
	return list
}

func TestPeriodsOfSamples(t *testing.T) {
	next := numbers(26)
	blocked, carried := 0, 0
	for _, n := range append([]impl.Network{square(), parallels(), trap(), kite(), diagonal(), strands(0, 0), hub(), pentagon(), network("a b c")}, randomNetworks(20, 5)...) {
		for range 2 {
			all := randomGrowths(n, next(impl.MaxDemands+1), next)
			list := [][]impl.Format{tens(), formats(1000, 5, 300, 12), sampleFormats()[5], sampleFormats()[4]}[next(4)]
			some := comparePeriods(t, n, list, all)
			blocked, carried = blocked+len(some), carried+len(all)-len(some)
		}
	}
	// Exactly MaxDemands Growths, all at once and one after the other.
	for _, all := range [][]impl.Growth{slices.Repeat(growths(growth(0, 2, 20, 3, 3)), 12), randomGrowths(square(), 12, next)} {
		comparePeriods(t, square(), tens(), all)
	}
	if blocked < 50 || carried < 50 {
		t.Errorf("%d Growths are blocked, and %d not", blocked, carried)
	}
}
