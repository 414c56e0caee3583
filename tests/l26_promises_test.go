package tests

import (
	"slices"
	"testing"

	"loop.example/g00897/impl"
)

// The tests of this file would fail if promise 26, or promise 29 for a function of chapter 26, were
// broken.

// checkCarried checks that the plan of a period has a light for exactly the Growths that are wanted
// and not blocked, that every light carries its demand, and that no slot is shared.
func checkCarried(t *testing.T, p impl.Plan, list []impl.Format, all []impl.Growth, period int, blocked []int) {
	t.Helper()
	want := []int{}
	for i, g := range all {
		if g.Start <= period && period <= g.End && !slices.Contains(blocked, i) {
			want = append(want, i+1)
		}
	}
	if !impl.IsValidPlan(p) || !slices.Equal(idsOf(p), want) {
		t.Errorf("the plan of period %d for %v is %v, but %v are blocked", period, all, p, blocked)
	}
	checkSlots(t, p)
	for _, id := range want {
		checkCarries(t, p, list, id, all[id-1].Demand)
	}
}

// TestPromise26EveryPlanCarriesTheDemands goes through the periods: lights stay as they are while
// they are wanted, and the sums over all periods agree.
func TestPromise26EveryPlanCarriesTheDemands(t *testing.T) {
	next := numbers(263)
	lights, gone := 0, 0
	for _, n := range append([]impl.Network{square(), parallels(), trap(), kite(), diagonal(), strands(0, 0), pentagon()}, randomNetworks(30, 6)...) {
		all, list := randomGrowths(n, next(impl.MaxDemands+1), next), [][]impl.Format{tens(), formats(1000, 5, 300, 12)}[next(2)]
		blocked, ok := impl.BlockedGrowth(n, list, all)
		history, fine := impl.UseHistory(n, list, all)
		if !ok || !fine || len(history) != impl.MaxPeriods {
			t.Fatalf("planning %v for %v fails", all, n)
		}
		rate, before := 0, plan(n)
		for period := range impl.MaxPeriods {
			p, ok := impl.PlanAt(n, list, all, period)
			if !ok || !samePlan(plan(p.Network), plan(n)) {
				t.Fatalf("PlanAt(%v, %v, %v, %d) = %v, %v", n, list, all, period, p, ok)
			}
			checkCarried(t, p, list, all, period, blocked)
			if history[period] != slotsUsed(p) {
				t.Errorf("%d slots are used in %v, not %d", slotsUsed(p), p, history[period])
			}
			for _, x := range before.Lights {
				y, stays := lightOf(p.Lights, x.Id)
				if stays && !equalLights(x, y) {
					t.Errorf("the light %v is moved to %v in period %d", x, y, period)
				}
				if !stays {
					gone++
				}
			}
			for _, x := range p.Lights {
				rate += all[x.Id-1].Demand.Rate
			}
			before, lights = p, lights+len(p.Lights)
		}
		if sum, ok := impl.CarriedRate(n, list, all); !ok || sum != rate {
			t.Errorf("the lights for %v carry %d, not %d, %v", all, rate, sum, ok)
		}
		checkBlocked(t, n, list, all, blocked)
	}
	if lights < 300 || gone < 50 {
		t.Errorf("only %d lights are in plans, and %d are removed", lights, gone)
	}
}

// checkBlocked checks that every blocked Growth finds no light on the first day on which it is
// wanted, among the lights that were there before it.
func checkBlocked(t *testing.T, n impl.Network, list []impl.Format, all []impl.Growth, blocked []int) {
	t.Helper()
	for _, i := range blocked {
		p, _ := impl.PlanAt(n, list, all, all[i].Start)
		p.Lights = slices.DeleteFunc(p.Lights, func(x impl.Light) bool { return all[x.Id-1].Start == all[i].Start && x.Id > i+1 })
		if choices, ok := impl.RouteChoices(p, list, all[i].Demand); !ok || len(choices) > 0 {
			t.Errorf("the Growth %d of %v is blocked, but there is room for %v in %v", i, all, choices, p)
		}
	}
}

// TestPromise26DelaysAreUndoneByOppositeDelays delays every Growth by all numbers of periods.
func TestPromise26DelaysAreUndoneByOppositeDelays(t *testing.T) {
	next := numbers(264)
	undone, refused := 0, 0
	for _, n := range []impl.Network{square(), trap(), largest()} {
		all := randomGrowths(n, impl.MaxDemands, next)
		for i := range all {
			for periods := -impl.MaxPeriods; periods <= impl.MaxPeriods; periods++ {
				delayed, ok := impl.DelayGrowth(n, all, i, periods)
				if ok != (all[i].Start+periods >= 0 && all[i].End+periods < impl.MaxPeriods) {
					t.Errorf("DelayGrowth(%v, %v, %d, %d) = %v, %v", n, all, i, periods, delayed, ok)
				}
				if !ok {
					refused++
					continue
				}
				back, ok := impl.DelayGrowth(n, delayed, i, -periods)
				if !ok || !slices.Equal(back, all) || !impl.IsValidGrowth(n, delayed) {
					t.Errorf("%v becomes %v, and then %v, %v", all, delayed, back, ok)
				}
				before, _ := impl.ActiveGrowth(n, all, all[i].Start)
				after, _ := impl.ActiveGrowth(n, delayed, all[i].Start+periods)
				if !slices.Contains(before, i) || !slices.Contains(after, i) || delayed[i].End-delayed[i].Start != all[i].End-all[i].Start {
					t.Errorf("the Growth %v becomes %v by a delay of %d", all[i], delayed[i], periods)
				}
				undone++
			}
		}
	}
	if undone < 100 || refused < 100 {
		t.Errorf("only %d delays are undone, and %d are refused", undone, refused)
	}
}

// addNetworksAndFormats adds some valid and invalid networks and lists of formats.
func addNetworksAndFormats(c candidates) {
	for i, n := range append(sampleNetworks()[:12], brokenNetworks()...) {
		if i < 12 || i%6 == 0 {
			c.add(n)
		}
	}
	for i, list := range append(badFormats(), sampleFormats()...) {
		if i%3 == 0 {
			c.add(list)
		}
	}
}

func periodCandidates() candidates {
	c := candidates{}
	addNetworksAndFormats(c)
	for i, g := range badGrowths() {
		if i%4 == 0 {
			c.add(growths(growth(0, 1, 20, 1, 3), g))
		}
	}
	c.add(growths(), growths(growth(0, 1, 20, 1, 3)), growths(growth(1, 0, 100, 0, 7), growth(0, 1, 240, 2, 5), growth(1, 0, 50, 6, 7)), make([]impl.Growth, 13))
	c.add(minInt, -1, 0, 1, 4, 7, 8, 24, 25, maxInt)
	return c
}

func TestPromise29PeriodFunctions(t *testing.T) {
	c := periodCandidates()
	for _, f := range []any{impl.IsValidGrowth, impl.ActiveGrowth, impl.PlanAt, impl.BlockedGrowth, impl.UseHistory, impl.PeakFiber, impl.UpgradePeriods, impl.DelayGrowth, impl.CarriedRate} {
		sweep(t, f, c, 1500, startsWithBrokenNetwork)
	}
}
