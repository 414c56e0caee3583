package tests

import (
	"slices"
	"testing"

	"loop.example/g00897/impl"
)

// The tests of this file would fail if promise 25, or promise 29 for a function of chapter 25, were
// broken.

// TestPromise25ExplanationsHitExactlyTheLightsThatAreDown lets groups fail, and explains which lights
// are down then: there is an explanation, because those of the groups that hit a light are one.
func TestPromise25ExplanationsHitExactlyTheLightsThatAreDown(t *testing.T) {
	next := numbers(253)
	found := 0
	for _, p := range append(allPlans(), append(crowded(), alarmed())...) {
		for range 3 {
			failed := randomSet(groupCount(p.Network), next)
			down, ok := impl.LightsHit(p, failed)
			if !ok || !slices.Equal(down, expectedHit(p, failed)) {
				t.Fatalf("LightsHit(%v, %v) = %v, %v", p, failed, down, ok)
			}
			groups, isFound, ok := impl.FewestFailures(p, down)
			if !ok || !isFound || len(groups) > len(failed) || !slices.Equal(expectedHit(p, groups), down) {
				t.Errorf("FewestFailures(%v, %v) = %v, %v, %v, but %v have failed", p, down, groups, isFound, ok, failed)
			}
			minimal, ok := impl.MinimalExplanations(p, down)
			if !ok {
				continue
			}
			checkMinimal(t, p, down, groups, minimal)
			checkSpare(t, p, down, failed, minimal)
			found += len(minimal)
		}
	}
	if found < 200 {
		t.Errorf("only %d explanations are found", found)
	}
}

// checkMinimal checks that explanations hit exactly the lights that are down, have no group to
// spare, and come in their order, the fewest failures first.
func checkMinimal(t *testing.T, p impl.Plan, down []int, fewest []int, minimal [][]int) {
	t.Helper()
	if len(minimal) == 0 || !slices.Equal(minimal[0], fewest) {
		t.Errorf("the fewest failures for %v of %v are %v, but the explanations are %v", down, p, fewest, minimal)
	}
	for k, groups := range minimal {
		if is, ok := impl.IsExplanation(p, down, groups); !ok || !is {
			t.Errorf("%v is no explanation of %v for %v: %v", groups, down, p, ok)
		}
		if !slices.Equal(expectedHit(p, groups), down) {
			t.Errorf("%v hits %v, but %v of %v are down", groups, expectedHit(p, groups), down, p)
		}
		for i := range groups {
			rest := slices.Delete(slices.Clone(groups), i, i+1)
			if is, ok := impl.IsExplanation(p, down, rest); !ok || is || slices.Equal(expectedHit(p, rest), down) {
				t.Errorf("%v of %v can be spared for %v of %v", groups[i], groups, down, p)
			}
		}
		if k > 0 && (len(minimal[k-1]) > len(groups) || len(minimal[k-1]) == len(groups) && slices.Compare(minimal[k-1], groups) >= 0) {
			t.Errorf("%v comes before %v", minimal[k-1], groups)
		}
	}
}

// checkSpare takes groups from those that have failed until none can be spared: what is left is one
// of the minimal explanations.
func checkSpare(t *testing.T, p impl.Plan, down []int, failed []int, minimal [][]int) {
	t.Helper()
	left := slices.Clone(failed)
	for i := 0; i < len(left); {
		rest := slices.Delete(slices.Clone(left), i, i+1)
		if slices.Equal(expectedHit(p, rest), down) {
			left = rest
		} else {
			i++
		}
	}
	if !slices.ContainsFunc(minimal, func(groups []int) bool { return slices.Equal(groups, left) }) {
		t.Errorf("%v explains %v of %v, but is missing in %v", left, down, p, minimal)
	}
}

// TestPromise25CertainGroupsAreInEveryExplanation compares what is certain with all explanations.
func TestPromise25CertainGroupsAreInEveryExplanation(t *testing.T) {
	next := numbers(254)
	certain, possible := 0, 0
	for _, p := range append(allPlans(), alarmed()) {
		down := expectedHit(p, randomSet(groupCount(p.Network), next))
		minimal, ok := impl.MinimalExplanations(p, down)
		all, some, fine := impl.CertainGroups(p, down)
		if ok != fine {
			t.Errorf("MinimalExplanations(%v, %v) succeeds: %v, and CertainGroups: %v", p, down, ok, fine)
		}
		suspects, _ := impl.SuspectGroups(p, down)
		for g := range groupCount(p.Network) {
			count := 0
			for _, groups := range minimal {
				if slices.Contains(groups, g) {
					count++
				}
			}
			isSuspect := slices.Contains(suspects, g)
			if ok && (slices.Contains(all, g) != (count == len(minimal)) || slices.Contains(some, g) != (count > 0) || count > 0 && !isSuspect) {
				t.Errorf("group %d of %v is in %d explanations of %v: %v, %v, %v", g, p, count, down, all, some, suspects)
			}
		}
		certain, possible = certain+len(all), possible+len(some)
	}
	if certain < 10 || possible <= certain {
		t.Errorf("%d groups are certain and %d possible", certain, possible)
	}
}

func alarmCandidates() candidates {
	c := candidates{}
	for i, p := range append(samplePlans(), brokenPlans()...) {
		if i < len(samplePlans()) || i%5 == 0 {
			c.add(p)
		}
	}
	c.add(alarmed())
	for i, list := range append(badLightSets(), badGroupSets()...) {
		if i%3 == 0 {
			c.add(list)
		}
	}
	c.add([]int(nil), []int{0}, []int{1}, []int{1, 2, 5, 8}, []int{0, 1, 2}, []int{5, 6, 7})
	c.add(alarms(), alarms(1, 1, 2, 2), alarms(1, 1, 9, 5, 9, 5), alarms(5, 1, 4, 1), alarms(0, 0), make([]impl.Alarm, 41))
	c.add(minInt, -1, 0, 5, 1000000, 1000001, maxInt)
	return c
}

func TestPromise29AlarmFunctions(t *testing.T) {
	c := alarmCandidates()
	for _, f := range []any{impl.LightsHit, impl.SuspectGroups, impl.IsExplanation, impl.FewestFailures, impl.MinimalExplanations, impl.CertainGroups, impl.DistinguishingLight, impl.AlarmBursts, impl.ProbableCauses} {
		sweep(t, f, c, 1500, startsWithBrokenPlan)
	}
}
