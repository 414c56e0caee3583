package tests

import (
	"slices"
	"testing"

	"loop.example/g00897/impl"
)

// The tests of this file compare every function of chapter 14 with what the document states:
// ordinary inputs, the edge cases that the chapter names, and invalid inputs.

const (
	unaffected = impl.StatusUnaffected
	switched   = impl.StatusSwitched
	degraded   = impl.StatusDegraded
	lost       = impl.StatusLost
)

// goneWith returns the fibers of some risk groups.
func goneWith(n impl.Network, failed []int) []int {
	var gone []int
	groups, _ := impl.RiskGroups(n)
	for _, g := range failed {
		gone = append(gone, groups[g]...)
	}
	return gone
}

// expectedStatus switches the services in the order of Id, slot by slot.
func expectedStatus(x serviceCase, failed []int) []int {
	status, gone := []int{}, goneWith(x.n, failed)
	var used []int
	for _, s := range x.list {
		workFails, spareFails := have(s.Work.Fibers, gone), have(s.Spare.Fibers, gone)
		wanted := places(s.Spare, s.SpareBlock)
		switch {
		case !workFails && !spareFails:
			status = append(status, unaffected)
		case !workFails:
			status = append(status, degraded)
		case s.Class == impl.ClassPlain || spareFails || have(used, wanted):
			status = append(status, lost)
		default:
			status = append(status, switched)
			used = append(used, wanted...)
		}
	}
	return status
}

// expectedActive returns the masks of the slots in use when some risk groups fail.
func expectedActive(x serviceCase, failed []int) []int {
	masks := make([]int, len(x.n.Fibers))
	use := func(r impl.Route, b impl.Block) {
		for _, s := range slotsOf(impl.Light{Route: r, Block: b}) {
			masks[s[0]] |= 1 << s[1]
		}
	}
	for i, status := range expectedStatus(x, failed) {
		s := x.list[i]
		if status == unaffected || status == degraded {
			use(s.Work, s.WorkBlock)
		}
		if status == switched || status == unaffected && s.Class == impl.ClassDedicated {
			use(s.Spare, s.SpareBlock)
		}
	}
	return masks
}

// expectedLost returns the Ids of the lost services, the Ids of those that are not plain, and the
// sum of their rates.
func expectedLost(x serviceCase, rates []int, failed []int) ([]int, []int, int) {
	ids, protected, rate := []int{}, []int{}, 0
	for i, status := range expectedStatus(x, failed) {
		if status == lost {
			ids = append(ids, x.list[i].Id)
			rate += rates[i]
			if x.list[i].Class != impl.ClassPlain {
				protected = append(protected, x.list[i].Id)
			}
		}
	}
	return ids, protected, rate
}

// ratesFor returns different rates for services.
func ratesFor(list []impl.Service) []int {
	rates := []int{}
	for i := range list {
		rates = append(rates, 1+(i*37+11)%50)
	}
	return rates
}

// groupLists returns strictly ascending lists of the risk groups of a network: none, and those with
// up to three groups in lexicographic order for each size, and all of them.
func groupLists(n impl.Network) [][]int {
	groups, _ := impl.RiskGroups(n)
	lists := slices.DeleteFunc(listsBelow(len(groups)), func(list []int) bool { return len(list) > 3 })
	if len(groups) > 3 {
		lists = append(lists, upTo(len(groups)))
	}
	return lists
}

func TestStatusAfter(t *testing.T) {
	x := fixedServices()[4]
	check(t, impl.StatusAfter, in(x.n, x.list, []int{}), out([]int{unaffected, unaffected}, true))
	check(t, impl.StatusAfter, in(x.n, x.list, []int{0}), out([]int{unaffected, degraded}, true))
	check(t, impl.StatusAfter, in(x.n, x.list, []int{1}), out([]int{lost, switched}, true))
	check(t, impl.StatusAfter, in(x.n, x.list, []int{1, 2}), out([]int{lost, switched}, true))
	check(t, impl.StatusAfter, in(x.n, x.list, []int{0, 2}), out([]int{lost, lost}, true))
	check(t, impl.StatusAfter, in(x.n, []impl.Service{}, []int{0, 1, 2}), out([]int{}, true))
	check(t, impl.StatusAfter, in(network("a b"), []impl.Service{}, []int{}), out([]int{}, true))
	// Services of all classes: the groups are the risk 1 (fibers a-d and b-d), and the other fibers.
	x = fixedServices()[9]
	check(t, impl.StatusAfter, in(x.n, x.list, []int{0}), out([]int{switched, switched, unaffected}, true))
	check(t, impl.StatusAfter, in(x.n, x.list, []int{1}), out([]int{switched, unaffected, unaffected}, true))
	check(t, impl.StatusAfter, in(x.n, x.list, []int{2}), out([]int{degraded, degraded, unaffected}, true))
	check(t, impl.StatusAfter, in(x.n, x.list, []int{3}), out([]int{degraded, degraded, lost}, true))
	check(t, impl.StatusAfter, in(x.n, x.list, []int{0, 3}), out([]int{lost, lost, lost}, true))
}

// TestStatusAfterCompetition fails groups so that several services want the same slots.
func TestStatusAfterCompetition(t *testing.T) {
	// Both services want the slots of e-f: the one with the smaller Id gets them.
	x := fixedServices()[2]
	check(t, impl.StatusAfter, in(x.n, x.list, []int{0}), out([]int{switched, unaffected}, true))
	check(t, impl.StatusAfter, in(x.n, x.list, []int{3}), out([]int{unaffected, switched}, true))
	check(t, impl.StatusAfter, in(x.n, x.list, []int{0, 3}), out([]int{switched, lost}, true))
	// The first one cannot be switched, so that the other one is.
	check(t, impl.StatusAfter, in(x.n, x.list, []int{0, 1, 3}), out([]int{lost, switched}, true))
	check(t, impl.StatusAfter, in(x.n, x.list, []int{0, 1}), out([]int{lost, unaffected}, true))
	check(t, impl.StatusAfter, in(x.n, x.list, []int{0, 6}), out([]int{lost, degraded}, true))
	check(t, impl.ActiveMasks, in(x.n, x.list, []int{0, 3}), out([]int{0, 15, 15, 0, 0, 0, 15}, true))
	// Of three services, two share all slots; the third one shares a slot with each of them.
	x = fixedServices()[6]
	check(t, impl.StatusAfter, in(x.n, x.list, []int{0, 1, 2}), out([]int{switched, lost, lost}, true))
	check(t, impl.StatusAfter, in(x.n, x.list, []int{1, 2}), out([]int{unaffected, switched, lost}, true))
	check(t, impl.StatusAfter, in(x.n, x.list, []int{0, 2}), out([]int{switched, unaffected, lost}, true))
	check(t, impl.StatusAfter, in(x.n, x.list, []int{0, 1, 2, 3}), out([]int{lost, lost, lost}, true))
	// A service that is lost in the competition takes no slots from a later one.
	b := block(0, 2)
	list := []impl.Service{shared(1, route(0, 0), b, route(0, 3), block(0, 2)), shared(2, route(0, 1), b, route(0, 3), block(1, 2)), shared(3, route(0, 2), b, route(0, 3), block(2, 2))}
	check(t, impl.StatusAfter, in(strands(0, 0, 0, 0), list, []int{0, 1, 2}), out([]int{switched, lost, switched}, true))
	check(t, impl.LostServices, in(strands(0, 0, 0, 0), list, []int{0, 1, 2}), out([]int{2}, true))
	// Dedicated services do not compete.
	x = fixedServices()[8]
	check(t, impl.StatusAfter, in(x.n, x.list, []int{0, 1}), out([]int{switched, switched, switched}, true))
}

func TestFirstLoss(t *testing.T) {
	none := out([]int{}, 0, false, true)
	x := fixedServices()[4]
	check(t, impl.FirstLoss, in(x.n, x.list, 1), none)
	check(t, impl.FirstLoss, in(x.n, x.list, 2), out([]int{0, 1}, 2, true, true))
	check(t, impl.FirstLoss, in(x.n, x.list, 3), out([]int{0, 1, 2}, 2, true, true))
	x = fixedServices()[2]
	check(t, impl.FirstLoss, in(x.n, x.list, 2), out([]int{0, 1}, 1, true, true))
	// Plain services do not count, and there may be too few groups.
	for size := 1; size <= 3; size++ {
		check(t, impl.FirstLoss, in(fixedServices()[3].n, fixedServices()[3].list, size), none)
		check(t, impl.FirstLoss, in(square(), []impl.Service{}, size), none)
		check(t, impl.FirstLoss, in(network("a b"), []impl.Service{}, size), none)
	}
	two := []impl.Service{dedicated(6, route(0, 0), block(0, 1), route(0, 1), block(0, 1))}
	check(t, impl.FirstLoss, in(strands(0, 0), two, 2), out([]int{0, 1}, 6, true, true))
	check(t, impl.FirstLoss, in(strands(0, 0), two, 3), none)
	// Only the last pair of groups loses a service; the smallest Id that is not plain is returned.
	list := []impl.Service{plain(1, route(0, 0), block(0, 1)), plain(3, route(0, 2), block(0, 1)), dedicated(5, route(0, 3), block(0, 1), route(0, 2), block(1, 1)),
		dedicated(7, route(0, 2), block(2, 1), route(0, 3), block(2, 1))}
	check(t, impl.FirstLoss, in(strands(0, 0, 0, 0), list, 2), out([]int{2, 3}, 5, true, true))
	check(t, impl.FirstLoss, in(strands(0, 0, 0, 0), list, 3), out([]int{0, 2, 3}, 5, true, true))
	for _, size := range []int{0, -1, 4, minInt, maxInt} {
		checkFails(t, impl.FirstLoss, x.n, x.list, size)
	}
}

func TestLostRateAndWorstPair(t *testing.T) {
	x := fixedServices()[4]
	check(t, impl.LostRate, in(x.n, x.list, []int{10, 20}, []int{1}), out(10, true))
	check(t, impl.LostRate, in(x.n, x.list, []int{10, 20}, []int{}), out(0, true))
	check(t, impl.LostRate, in(x.n, x.list, []int{1000, 1}, []int{0, 1, 2}), out(1001, true))
	check(t, impl.LostRate, in(x.n, []impl.Service{}, []int{}, []int{0, 1, 2}), out(0, true))
	check(t, impl.WorstPair, in(x.n, x.list, []int{10, 20}), out(0, 1, 30, true))
	check(t, impl.WorstPair, in(x.n, []impl.Service{}, []int{}), out(0, 1, 0, true))
	// Three plain services on fibers of their own: ties, and a pair that is not the first one.
	list := []impl.Service{plain(1, route(0, 0), block(0, 1)), plain(2, route(0, 1), block(0, 1)), plain(3, route(0, 2), block(0, 1))}
	n := strands(0, 0, 0)
	check(t, impl.WorstPair, in(n, list, []int{7, 7, 7}), out(0, 1, 14, true))
	check(t, impl.WorstPair, in(n, list, []int{7, 6, 7}), out(0, 2, 14, true))
	check(t, impl.WorstPair, in(n, list, []int{6, 1000, 999}), out(1, 2, 1999, true))
	check(t, impl.WorstPair, in(strands(0, 1), list[:2], []int{6, 5}), out(0, 1, 11, true))
	// Fewer than two groups.
	checkFails(t, impl.WorstPair, strands(3, 3, 3), list, []int{1, 1, 1})
	checkFails(t, impl.WorstPair, strands(0), list[:1], []int{1})
	checkFails(t, impl.WorstPair, network("a b"), []impl.Service{}, []int{})
}

func TestLosingGroupsAndRepairOrder(t *testing.T) {
	x := fixedServices()[4]
	check(t, impl.LosingGroups, in(x.n, x.list), out([]int{1, 2}, true))
	check(t, impl.LosingGroups, in(fixedServices()[2].n, fixedServices()[2].list), out([]int{}, true))
	check(t, impl.LosingGroups, in(x.n, []impl.Service{}), out([]int{}, true))
	check(t, impl.RepairOrder, in(x.n, x.list, []int{10, 20}, []int{0, 1}), out([]int{1, 0}, true))
	check(t, impl.RepairOrder, in(x.n, x.list, []int{10, 20}, []int{}), out([]int{}, true))
	check(t, impl.RepairOrder, in(x.n, x.list, []int{10, 20}, []int{2}), out([]int{2}, true))
	check(t, impl.RepairOrder, in(x.n, []impl.Service{}, []int{}, []int{0, 1, 2}), out([]int{0, 1, 2}, true))
	list := []impl.Service{plain(1, route(0, 0), block(0, 1)), plain(2, route(0, 1), block(0, 1)), plain(3, route(0, 2), block(0, 1))}
	n := strands(0, 0, 0)
	check(t, impl.RepairOrder, in(n, list, []int{5, 9, 7}, []int{0, 1, 2}), out([]int{1, 2, 0}, true))
	check(t, impl.RepairOrder, in(n, list, []int{5, 5, 7}, []int{0, 1, 2}), out([]int{2, 0, 1}, true))
	check(t, impl.RepairOrder, in(n, list, []int{5, 5, 5}, []int{0, 2}), out([]int{0, 2}, true))
	// Competition: what a repair leaves depends on which groups are failed together.
	x = fixedServices()[2]
	check(t, impl.RepairOrder, in(x.n, x.list, []int{10, 20}, []int{0, 1, 3}), out([]int{0, 1, 3}, true))
	check(t, impl.RepairOrder, in(x.n, x.list, []int{20, 10}, []int{0, 3, 6}), out([]int{0, 3, 6}, true))
	check(t, impl.RepairOrder, in(x.n, x.list, []int{10, 20}, []int{0, 3, 6}), out([]int{3, 0, 6}, true))
}

func TestFailuresOfSamples(t *testing.T) {
	competing := 0
	for k, x := range sampleServices() {
		rates := ratesFor(x.list)
		var losing []int
		first := map[int][]int{}
		worst := []int{0, 0, -1}
		groups, _ := impl.RiskGroups(x.n)
		for i, failed := range groupLists(x.n) {
			ids, protected, rate := expectedLost(x, rates, failed)
			if len(failed) == 1 && len(ids) > 0 {
				losing = append(losing, failed[0])
			}
			if len(failed) == 2 && rate > worst[2] {
				worst = []int{failed[0], failed[1], rate}
			}
			if len(protected) > 0 && first[len(failed)] == nil {
				first[len(failed)] = append(slices.Clone(failed), protected[0])
			}
			if len(protected) > 0 && len(failed) == 2 && len(goneWith(x.n, failed)) == 2 {
				competing++
			}
			if len(failed) <= 2 || (i+k)%7 == 0 {
				compareFailure(t, x, rates, failed)
			}
		}
		for size := 1; size <= 3; size++ {
			if list := first[size]; len(list) > 0 {
				check(t, impl.FirstLoss, in(x.n, x.list, size), out(list[:size], list[size], true, true))
			} else {
				check(t, impl.FirstLoss, in(x.n, x.list, size), out([]int{}, 0, false, true))
			}
		}
		check(t, impl.LosingGroups, in(x.n, x.list), out(losing, true))
		if len(groups) < 2 {
			checkFails(t, impl.WorstPair, x.n, x.list, rates)
		} else {
			check(t, impl.WorstPair, in(x.n, x.list, rates), out(worst[0], worst[1], worst[2], true))
		}
	}
	if competing < 50 {
		t.Errorf("only %d pairs of fibers lose a protected service", competing)
	}
}

// compareFailure compares everything that depends on the groups that fail.
func compareFailure(t *testing.T, x serviceCase, rates []int, failed []int) {
	t.Helper()
	ids, _, rate := expectedLost(x, rates, failed)
	check(t, impl.StatusAfter, in(x.n, x.list, failed), out(expectedStatus(x, failed), true))
	check(t, impl.LostServices, in(x.n, x.list, failed), out(ids, true))
	check(t, impl.ActiveMasks, in(x.n, x.list, failed), out(expectedActive(x, failed), true))
	check(t, impl.LostRate, in(x.n, x.list, rates, failed), out(rate, true))
	order := []int{}
	for rest := slices.Clone(failed); len(rest) > 0; {
		best, least := 0, maxInt
		for i := range rest {
			if _, _, rate := expectedLost(x, rates, slices.Delete(slices.Clone(rest), i, i+1)); rate < least {
				best, least = i, rate
			}
		}
		order = append(order, rest[best])
		rest = slices.Delete(rest, best, best+1)
	}
	check(t, impl.RepairOrder, in(x.n, x.list, rates, failed), out(order, true))
}

func TestFailuresFail(t *testing.T) {
	x := fixedServices()[4]
	for _, failed := range [][]int{{3}, {-1}, {0, 0}, {1, 0}, {0, 1, 2, 3}, {0, 3}, {minInt}, {0, maxInt}} {
		checkFails(t, impl.StatusAfter, x.n, x.list, failed)
		checkFails(t, impl.LostServices, x.n, x.list, failed)
		checkFails(t, impl.ActiveMasks, x.n, x.list, failed)
		checkFails(t, impl.LostRate, x.n, x.list, []int{1, 1}, failed)
		checkFails(t, impl.RepairOrder, x.n, x.list, []int{1, 1}, failed)
	}
	for _, rates := range [][]int{{}, {1}, {1, 1, 1}, {0, 1}, {1, 0}, {-1, 1}, {1001, 1}, {1, 1001}, {minInt, 1}, {1, maxInt}} {
		checkFails(t, impl.LostRate, x.n, x.list, rates, []int{0})
		checkFails(t, impl.WorstPair, x.n, x.list, rates)
		checkFails(t, impl.RepairOrder, x.n, x.list, rates, []int{0})
		checkFails(t, impl.RepairOrder, x.n, x.list, rates, []int{})
	}
	checkFails(t, impl.LostRate, x.n, []impl.Service{}, []int{1}, []int{})
	failing := func(n impl.Network, list []impl.Service) {
		rates := slices.Repeat([]int{1}, len(list))
		checkFails(t, impl.StatusAfter, n, list, []int{})
		checkFails(t, impl.LostServices, n, list, []int{0})
		checkFails(t, impl.FirstLoss, n, list, 2)
		checkFails(t, impl.ActiveMasks, n, list, []int{0})
		checkFails(t, impl.LostRate, n, list, rates, []int{0})
		checkFails(t, impl.WorstPair, n, list, rates)
		checkFails(t, impl.LosingGroups, n, list)
		checkFails(t, impl.RepairOrder, n, list, rates, []int{0, 1})
	}
	for _, list := range brokenServices() {
		failing(square(), list)
	}
	for _, n := range brokenNetworks() {
		failing(n, []impl.Service{})
		failing(n, []impl.Service{plain(1, route(0, 0), block(0, 1))})
	}
}
