package tests

import (
	"slices"
	"testing"

	"loop.example/g00897/impl"
)

// The tests of this file compare every function of chapter 25 with what the document states:
// ordinary inputs, the edge cases that the chapter names, and invalid inputs.

// diagonal is a square a-b-c-d with a diagonal a-c, in which the fibers a-d and c-d fail together.
func diagonal() impl.Network {
	return network("a b c d", [4]int{0, 1, 100}, [4]int{0, 2, 300}, [4]int{0, 3, 100, 1}, [4]int{1, 2, 100}, [4]int{2, 3, 100, 1})
}

// alarmed has lights on the diagonal square: its groups are {2, 4}, {0}, {1} and {3}.
func alarmed() impl.Plan {
	return plan(diagonal(), light(1, route(0, 0, 3), 0, 1), light(2, route(0, 2), 0, 1), light(5, route(2, 4), 0, 1), light(8, route(0, 0), 3, 2))
}

// singles connects nodes in a row by parallel fibers that fail each on their own.
func singles(counts ...int) impl.Network {
	n := chain(counts...)
	for i := range n.Fibers {
		n.Fibers[i].Risk = 0
	}
	return n
}

// idsOf returns the Ids of all lights of a plan.
func idsOf(p impl.Plan) []int {
	ids := []int{}
	for _, x := range p.Lights {
		ids = append(ids, x.Id)
	}
	return ids
}

// expectedHit returns the lights that some groups hit.
func expectedHit(p impl.Plan, groups []int) []int {
	hit := []int{}
	for _, x := range p.Lights {
		if have(x.Route.Fibers, goneWith(p.Network, groups)) {
			hit = append(hit, x.Id)
		}
	}
	return hit
}

// expectedSuspects returns the groups that hit lights that are down, and no others.
func expectedSuspects(p impl.Plan, down []int) []int {
	suspects := []int{}
	for g := range groupCount(p.Network) {
		hit := expectedHit(p, []int{g})
		if len(hit) > 0 && !slices.ContainsFunc(hit, func(id int) bool { return !slices.Contains(down, id) }) {
			suspects = append(suspects, g)
		}
	}
	return suspects
}

// expectedExplanation reports whether some groups are an explanation.
func expectedExplanation(p impl.Plan, down []int, groups []int) bool {
	for _, g := range groups {
		if len(expectedHit(p, []int{g})) == 0 {
			return false
		}
	}
	return slices.Equal(expectedHit(p, groups), down)
}

// expectedExplanations returns the first explanation, and all minimal ones, by trying all sets of
// suspects.
func expectedExplanations(p impl.Plan, down []int) ([]int, bool, [][]int) {
	suspects := expectedSuspects(p, down)
	var first []int
	found, minimal := false, [][]int{}
	for _, list := range listsBelow(len(suspects)) {
		groups := []int{}
		for _, i := range list {
			groups = append(groups, suspects[i])
		}
		if !expectedExplanation(p, down, groups) {
			continue
		}
		if !found {
			first, found = groups, true
		}
		omits := slices.ContainsFunc(upTo(len(groups)), func(i int) bool {
			return expectedExplanation(p, down, slices.Delete(slices.Clone(groups), i, i+1))
		})
		if !omits {
			minimal = append(minimal, groups)
		}
	}
	return first, found, minimal
}

// badLightSets returns lists that are no sets of the lights of alarmed.
func badLightSets() [][]int {
	return [][]int{{0}, {3}, {9}, {-1}, {1000}, {1, 1}, {2, 1}, {1, 2, 2}, {1, 5, 2}, {1, 3}, {1, 2, 5, 8, 9}, {0, 1}, {minInt}, {1, maxInt}, {8, 5, 2, 1}}
}

// badGroupSets returns lists that are no sets of the groups of alarmed.
func badGroupSets() [][]int {
	return [][]int{{4}, {-1}, {0, 0}, {1, 0}, {0, 4}, {-1, 0}, {0, 1, 2, 3, 4}, {3, 3}, {minInt}, {0, maxInt}}
}

func TestLightsHit(t *testing.T) {
	p := alarmed()
	check(t, impl.LightsHit, in(p, []int{}), out([]int{}, true))
	check(t, impl.LightsHit, in(p, []int{0}), out([]int{2, 5}, true))
	check(t, impl.LightsHit, in(p, []int{1}), out([]int{1, 8}, true))
	check(t, impl.LightsHit, in(p, []int{2}), out([]int{}, true)) // a group that hits no light
	check(t, impl.LightsHit, in(p, []int{3}), out([]int{1}, true))
	check(t, impl.LightsHit, in(p, []int{0, 2, 3}), out([]int{1, 2, 5}, true))
	check(t, impl.LightsHit, in(p, []int{0, 1, 2, 3}), out([]int{1, 2, 5, 8}, true))
	check(t, impl.LightsHit, in(plan(diagonal()), []int{0, 1, 2, 3}), out([]int{}, true))
	check(t, impl.LightsHit, in(plan(network("a b")), []int{}), out([]int{}, true))
	checkFails(t, impl.LightsHit, plan(network("a b")), []int{0})
	for _, groups := range badGroupSets() {
		checkFails(t, impl.LightsHit, p, groups)
		checkFails(t, impl.IsExplanation, p, []int{1}, groups)
		checkFails(t, impl.DistinguishingLight, p, groups, []int{0})
		checkFails(t, impl.DistinguishingLight, p, []int{0}, groups)
	}
	for _, p := range brokenPlans() {
		checkFails(t, impl.LightsHit, p, []int{})
		checkFails(t, impl.SuspectGroups, p, []int{})
		checkFails(t, impl.IsExplanation, p, []int{}, []int{})
		checkFails(t, impl.FewestFailures, p, []int{})
		checkFails(t, impl.MinimalExplanations, p, []int{})
		checkFails(t, impl.CertainGroups, p, []int{})
		checkFails(t, impl.DistinguishingLight, p, []int{}, []int{})
		checkFails(t, impl.ProbableCauses, p, []impl.Alarm{}, 5)
		checkFails(t, impl.ProbableCauses, p, alarms(3, 1), 5)
	}
}

func TestSuspectGroups(t *testing.T) {
	p := alarmed()
	check(t, impl.SuspectGroups, in(p, []int{}), out([]int{}, true))
	check(t, impl.SuspectGroups, in(p, []int{1}), out([]int{3}, true))
	check(t, impl.SuspectGroups, in(p, []int{1, 8}), out([]int{1, 3}, true))
	check(t, impl.SuspectGroups, in(p, []int{8}), out([]int{}, true))
	check(t, impl.SuspectGroups, in(p, []int{2}), out([]int{}, true))
	check(t, impl.SuspectGroups, in(p, []int{2, 5}), out([]int{0}, true))
	check(t, impl.SuspectGroups, in(p, []int{1, 2, 5, 8}), out([]int{0, 1, 3}, true))
	check(t, impl.SuspectGroups, in(plan(diagonal()), []int{}), out([]int{}, true))
	for _, down := range badLightSets() {
		checkFails(t, impl.SuspectGroups, p, down)
		checkFails(t, impl.IsExplanation, p, down, []int{0})
		checkFails(t, impl.IsExplanation, p, down, []int{})
		checkFails(t, impl.FewestFailures, p, down)
		checkFails(t, impl.MinimalExplanations, p, down)
		checkFails(t, impl.CertainGroups, p, down)
	}
	checkFails(t, impl.FewestFailures, plan(diagonal()), []int{1})
}

func TestIsExplanation(t *testing.T) {
	p := alarmed()
	yes, no := out(true, true), out(false, true)
	check(t, impl.IsExplanation, in(p, []int{}, []int{}), yes)
	check(t, impl.IsExplanation, in(p, []int{1}, []int{}), no)
	check(t, impl.IsExplanation, in(p, []int{1}, []int{3}), yes)
	check(t, impl.IsExplanation, in(p, []int{1}, []int{1}), no)
	check(t, impl.IsExplanation, in(p, []int{1, 8}, []int{1}), yes)
	check(t, impl.IsExplanation, in(p, []int{1, 8}, []int{3}), no)
	// A group that could be omitted does not matter, but one that hits no light does.
	check(t, impl.IsExplanation, in(p, []int{1, 8}, []int{1, 3}), yes)
	check(t, impl.IsExplanation, in(p, []int{1, 8}, []int{1, 2}), no)
	check(t, impl.IsExplanation, in(p, []int{}, []int{2}), no)
	check(t, impl.IsExplanation, in(p, []int{1, 2, 5, 8}, []int{0, 1}), yes)
	check(t, impl.IsExplanation, in(p, []int{1, 2, 5, 8}, []int{0, 1, 2, 3}), no)
	check(t, impl.IsExplanation, in(p, []int{1, 2, 8}, []int{0, 1}), no)
	check(t, impl.IsExplanation, in(plan(diagonal()), []int{}, []int{}), yes)
	check(t, impl.IsExplanation, in(plan(diagonal()), []int{}, []int{0}), no)
}

func TestFewestFailures(t *testing.T) {
	p := alarmed()
	check(t, impl.FewestFailures, in(p, []int{}), out([]int{}, true, true))
	check(t, impl.FewestFailures, in(p, []int{1}), out([]int{3}, true, true))
	check(t, impl.FewestFailures, in(p, []int{1, 8}), out([]int{1}, true, true))
	check(t, impl.FewestFailures, in(p, []int{1, 2, 5}), out([]int{0, 3}, true, true))
	check(t, impl.FewestFailures, in(p, []int{1, 2, 5, 8}), out([]int{0, 1}, true, true))
	// Lights that no group explains without lights that are up.
	check(t, impl.FewestFailures, in(p, []int{2}), out([]int{}, false, true))
	check(t, impl.FewestFailures, in(p, []int{8}), out([]int{}, false, true))
	check(t, impl.FewestFailures, in(p, []int{1, 2, 8}), out([]int{}, false, true))
	check(t, impl.FewestFailures, in(plan(diagonal()), []int{}), out([]int{}, true, true))
	check(t, impl.FewestFailures, in(plan(network("a b")), []int{}), out([]int{}, true, true))
	// Of explanations of the same number of groups the lexicographically first one, and one group
	// rather than two smaller ones.
	q := plan(singles(3, 2), light(1, route(0, 0, 3), 0, 1), light(2, route(0, 1, 3), 1, 1), light(3, route(0, 2, 4), 0, 1))
	check(t, impl.FewestFailures, in(q, []int{3}), out([]int{2}, true, true))
	check(t, impl.FewestFailures, in(q, []int{1, 2}), out([]int{3}, true, true))
	check(t, impl.FewestFailures, in(q, []int{1, 2, 3}), out([]int{2, 3}, true, true))
	check(t, impl.MinimalExplanations, in(q, []int{1, 2, 3}), out([][]int{{2, 3}, {3, 4}, {0, 1, 2}, {0, 1, 4}}, true))
	check(t, impl.CertainGroups, in(q, []int{1, 2, 3}), out([]int{}, []int{0, 1, 2, 3, 4}, true))
	check(t, impl.CertainGroups, in(q, []int{1, 2}), out([]int{}, []int{0, 1, 3}, true))
}

func TestMinimalExplanations(t *testing.T) {
	p := alarmed()
	check(t, impl.MinimalExplanations, in(p, []int{}), out([][]int{{}}, true))
	check(t, impl.MinimalExplanations, in(p, []int{1}), out([][]int{{3}}, true))
	check(t, impl.MinimalExplanations, in(p, []int{1, 8}), out([][]int{{1}}, true))
	check(t, impl.MinimalExplanations, in(p, []int{2}), out([][]int{}, true))
	check(t, impl.MinimalExplanations, in(p, []int{1, 2, 5}), out([][]int{{0, 3}}, true))
	check(t, impl.CertainGroups, in(p, []int{}), out([]int{}, []int{}, true))
	check(t, impl.CertainGroups, in(p, []int{2}), out([]int{}, []int{}, true))
	check(t, impl.CertainGroups, in(p, []int{1, 2, 5}), out([]int{0, 3}, []int{0, 3}, true))
	check(t, impl.CertainGroups, in(plan(diagonal()), []int{}), out([]int{}, []int{}, true))
	check(t, impl.MinimalExplanations, in(plan(network("a b")), []int{}), out([][]int{{}}, true))
}

// TestMinimalExplanationsUpToTheLimit has plans with exactly MaxExplanations minimal explanations,
// with one more, and with many more.
func TestMinimalExplanationsUpToTheLimit(t *testing.T) {
	exactly := plan(singles(3, 3, 2, 2, 1), light(1, route(0, 0, 3, 6, 8, 10), 0, 1), light(2, route(0, 1, 4, 7, 9), 0, 1), light(3, route(0, 2, 5), 0, 1))
	oneMore := plan(singles(3, 2, 2, 3, 4), light(1, route(0, 0, 4, 6, 7), 0, 1), light(2, route(0, 2, 3, 6, 9, 13), 1, 1), light(3, route(0, 1, 4, 5, 8, 11), 2, 1))
	many := plan(singles(4, 4, 4), light(1, route(0, 0, 4, 8), 0, 1), light(2, route(0, 1, 5, 9), 0, 1), light(3, route(0, 2, 6, 10), 0, 1), light(4, route(0, 3, 7, 11), 0, 1))
	for count, p := range map[int]impl.Plan{impl.MaxExplanations: exactly, impl.MaxExplanations + 1: oneMore, 81: many} {
		first, found, minimal := expectedExplanations(p, idsOf(p))
		if len(minimal) != count {
			t.Fatalf("%v has %d minimal explanations, not %d", p, len(minimal), count)
		}
		check(t, impl.FewestFailures, in(p, idsOf(p)), out(first, found, true))
		if count > impl.MaxExplanations {
			checkFails(t, impl.MinimalExplanations, p, idsOf(p))
			checkFails(t, impl.CertainGroups, p, idsOf(p))
			continue
		}
		check(t, impl.MinimalExplanations, in(p, idsOf(p)), out(minimal, true))
		check(t, impl.CertainGroups, in(p, idsOf(p)), out([]int{}, upTo(11), true))
	}
}

func TestDistinguishingLight(t *testing.T) {
	p := alarmed()
	check(t, impl.DistinguishingLight, in(p, []int{0}, []int{1}), out(1, true))
	check(t, impl.DistinguishingLight, in(p, []int{1}, []int{3}), out(8, true))
	check(t, impl.DistinguishingLight, in(p, []int{3}, []int{1}), out(8, true))
	check(t, impl.DistinguishingLight, in(p, []int{0, 1}, []int{1}), out(2, true))
	check(t, impl.DistinguishingLight, in(p, []int{1, 3}, []int{1, 2}), out(0, true))
	check(t, impl.DistinguishingLight, in(p, []int{}, []int{2}), out(0, true))
	check(t, impl.DistinguishingLight, in(p, []int{}, []int{}), out(0, true))
	check(t, impl.DistinguishingLight, in(plan(diagonal()), []int{0}, []int{1, 2, 3}), out(0, true))
}

// downSets returns sets of lights of a plan: none, all, those that random groups hit, and others.
func downSets(p impl.Plan, next func(limit int) int) [][]int {
	list := [][]int{{}, idsOf(p)}
	for range 5 {
		list = append(list, expectedHit(p, randomSet(groupCount(p.Network), next)))
	}
	some := []int{}
	for _, i := range randomSet(len(p.Lights), next) {
		some = append(some, p.Lights[i].Id)
	}
	return append(list, some)
}

func TestAlarmsOfSamples(t *testing.T) {
	next := numbers(25)
	explained, unexplained, most := 0, 0, 0
	for _, p := range append(allPlans(), alarmed(), gapped(), crowded()[2], crowded()[30]) {
		for _, down := range downSets(p, next) {
			a, b := randomSet(groupCount(p.Network), next), randomSet(groupCount(p.Network), next)
			check(t, impl.LightsHit, in(p, a), out(expectedHit(p, a), true))
			check(t, impl.SuspectGroups, in(p, down), out(expectedSuspects(p, down), true))
			check(t, impl.IsExplanation, in(p, down, a), out(expectedExplanation(p, down, a), true))
			check(t, impl.DistinguishingLight, in(p, a, b), out(expectedDistinguishing(p, a, b), true))
			first, found, minimal := expectedExplanations(p, down)
			check(t, impl.FewestFailures, in(p, down), out(first, found, true))
			if !found {
				unexplained++
			}
			if len(minimal) > impl.MaxExplanations {
				checkFails(t, impl.MinimalExplanations, p, down)
				checkFails(t, impl.CertainGroups, p, down)
				continue
			}
			check(t, impl.MinimalExplanations, in(p, down), out(minimal, true))
			all, some := expectedCertain(minimal)
			check(t, impl.CertainGroups, in(p, down), out(all, some, true))
			explained, most = explained+len(minimal), max(most, len(minimal))
		}
	}
	if explained < 300 || unexplained < 20 || most < 5 {
		t.Errorf("there are %d explanations, at most %d for one set, and %d sets without any", explained, most, unexplained)
	}
}

// expectedDistinguishing looks for a light that only one of two sets of groups hits.
func expectedDistinguishing(p impl.Plan, a []int, b []int) int {
	for _, id := range idsOf(p) {
		if slices.Contains(expectedHit(p, a), id) != slices.Contains(expectedHit(p, b), id) {
			return id
		}
	}
	return 0
}

// expectedCertain counts in how many explanations every group is.
func expectedCertain(minimal [][]int) ([]int, []int) {
	all, some := []int{}, []int{}
	for g := range impl.MaxFibers {
		count := 0
		for _, groups := range minimal {
			if slices.Contains(groups, g) {
				count++
			}
		}
		if count > 0 {
			some = append(some, g)
		}
		if count > 0 && count == len(minimal) {
			all = append(all, g)
		}
	}
	return all, some
}

// alarms builds alarms from times and lights in turn.
func alarms(numbers ...int) []impl.Alarm {
	list := []impl.Alarm{}
	for i := 0; i < len(numbers); i += 2 {
		list = append(list, impl.Alarm{Time: numbers[i], Light: numbers[i+1]})
	}
	return list
}

// expectedBursts returns the Lights of every burst.
func expectedBursts(list []impl.Alarm, gap int) [][]int {
	bursts := [][]int{}
	for i, a := range list {
		if i == 0 || a.Time > list[i-1].Time+gap {
			bursts = append(bursts, []int{})
		}
		last := &bursts[len(bursts)-1]
		if !slices.Contains(*last, a.Light) {
			*last = append(*last, a.Light)
			slices.Sort(*last)
		}
	}
	return bursts
}

func TestAlarmBursts(t *testing.T) {
	list := alarms(0, 2, 3, 5, 9, 1, 9, 1, 9, 8)
	check(t, impl.AlarmBursts, in(list, 5), out([][]int{{2, 5}, {1, 8}}, true))
	// Alarms exactly gap apart, and one more.
	check(t, impl.AlarmBursts, in(list, 6), out([][]int{{1, 2, 5, 8}}, true))
	check(t, impl.AlarmBursts, in(list, 3), out([][]int{{2, 5}, {1, 8}}, true))
	check(t, impl.AlarmBursts, in(list, 2), out([][]int{{2}, {5}, {1, 8}}, true))
	check(t, impl.AlarmBursts, in(list, 0), out([][]int{{2}, {5}, {1, 8}}, true))
	check(t, impl.AlarmBursts, in(alarms(), 0), out([][]int{}, true))
	check(t, impl.AlarmBursts, in(alarms(7, 3), 0), out([][]int{{3}}, true))
	// A burst goes on from alarm to alarm, with repeated alarms and lights out of order.
	check(t, impl.AlarmBursts, in(alarms(0, 9, 4, 3, 8, 9, 12, 3, 16, 1), 4), out([][]int{{1, 3, 9}}, true))
	check(t, impl.AlarmBursts, in(alarms(0, 9, 4, 9, 9, 9, 13, 9), 4), out([][]int{{9}, {9}}, true))
	// Times, gaps and Lights at their limits, and outside.
	check(t, impl.AlarmBursts, in(alarms(0, 1, 1000000, 999), 1000000), out([][]int{{1, 999}}, true))
	check(t, impl.AlarmBursts, in(alarms(0, 1, 1000000, 999), 999999), out([][]int{{1}, {999}}, true))
	for _, gap := range []int{-1, 1000001, minInt, maxInt} {
		checkFails(t, impl.AlarmBursts, list, gap)
		checkFails(t, impl.AlarmBursts, alarms(), gap)
		checkFails(t, impl.ProbableCauses, alarmed(), list, gap)
	}
	for _, bad := range [][]impl.Alarm{alarms(-1, 1), alarms(1000001, 1), alarms(minInt, 1), alarms(maxInt, 1), alarms(0, 0), alarms(0, -1), alarms(0, 1000), alarms(0, minInt), alarms(0, maxInt),
		alarms(5, 1, 4, 2), alarms(5, 1, 5, 0), alarms(1, 1, 2, 2, 1, 5), alarms(5, 1, maxInt, 1), alarms(5, 1, minInt, 1), alarms(5, 1, 6, 1000)} {
		for _, gap := range []int{0, 5, 1000000} {
			checkFails(t, impl.AlarmBursts, bad, gap)
			checkFails(t, impl.ProbableCauses, alarmed(), bad, gap)
		}
	}
	// Exactly MaxAlarms alarms and one more.
	next := numbers(251)
	for range 60 {
		time, gap := 0, next(6)
		var many []impl.Alarm
		for range impl.MaxAlarms {
			time += next(9)
			many = append(many, impl.Alarm{Time: time, Light: 1 + next(12)})
		}
		check(t, impl.AlarmBursts, in(many, gap), out(expectedBursts(many, gap), true))
		checkFails(t, impl.AlarmBursts, append(many, impl.Alarm{Time: time, Light: 1}), gap)
		checkFails(t, impl.ProbableCauses, alarmed(), append(many, impl.Alarm{Time: time, Light: 1}), gap)
	}
}

func TestProbableCauses(t *testing.T) {
	p := alarmed()
	list := alarms(0, 2, 3, 5, 9, 1, 9, 1, 9, 8)
	check(t, impl.ProbableCauses, in(p, list, 5), out([][]int{{0}, {1}}, true))
	check(t, impl.ProbableCauses, in(p, list, 6), out([][]int{{0, 1}}, true))
	// Bursts without an explanation have an empty list.
	check(t, impl.ProbableCauses, in(p, list, 2), out([][]int{{}, {}, {1}}, true))
	check(t, impl.ProbableCauses, in(p, alarms(1, 8, 2, 1, 9, 1), 0), out([][]int{{}, {3}, {3}}, true))
	check(t, impl.ProbableCauses, in(p, alarms(), 5), out([][]int{}, true))
	check(t, impl.ProbableCauses, in(plan(diagonal()), alarms(), 5), out([][]int{}, true))
	// Lights that are no lights of the plan, in the first burst and in the last one.
	for _, id := range []int{3, 4, 7, 9, 999} {
		checkFails(t, impl.ProbableCauses, p, alarms(1, id), 5)
		checkFails(t, impl.ProbableCauses, p, alarms(1, 1, 2, 2, 50, id), 5)
		checkFails(t, impl.ProbableCauses, p, alarms(1, id, 50, 1), 5)
	}
	checkFails(t, impl.ProbableCauses, plan(diagonal()), alarms(1, 1), 5)
	next := numbers(252)
	for _, p := range append(samplePlans(), randomPlans(20)...) {
		if len(p.Lights) == 0 {
			continue
		}
		var list []impl.Alarm
		time := 0
		for range next(impl.MaxAlarms) {
			time += next(9)
			list = append(list, impl.Alarm{Time: time, Light: p.Lights[next(len(p.Lights))].Id})
		}
		gap, causes := next(8), [][]int{}
		for _, burst := range expectedBursts(list, gap) {
			first, _, _ := expectedExplanations(p, burst)
			causes = append(causes, first)
		}
		check(t, impl.ProbableCauses, in(p, list, gap), out(causes, true))
	}
}
