package tests

import (
	"math/bits"
	"slices"
	"testing"

	"loop.example/g00897/impl"
)

// The tests of this file compare every function of chapter 13 with what the document states:
// ordinary inputs, the edge cases that the chapter names, and invalid inputs.

func TestIsValidServices(t *testing.T) {
	for _, x := range sampleServices() {
		check(t, impl.IsValidServices, in(x.n, x.list), out(true))
	}
	for _, list := range brokenServices() {
		check(t, impl.IsValidServices, in(square(), list), out(false))
	}
	for _, n := range brokenNetworks() {
		check(t, impl.IsValidServices, in(n, []impl.Service{}), out(false))
		check(t, impl.IsValidServices, in(n, []impl.Service{plain(1, route(0, 0), block(0, 1))}), out(false))
	}
	for _, id := range []int{0, 1, 2, 500, impl.MaxId, impl.MaxId + 1} {
		check(t, impl.IsValidServices, in(square(), []impl.Service{plain(id, route(0, 0), block(0, 1))}), out(id >= 1 && id <= impl.MaxId))
	}
}

// TestIsValidServicesOfTwo tries two services with all classes, many routes, and blocks that are
// shifted against each other.
func TestIsValidServicesOfTwo(t *testing.T) {
	valid, refused := 0, 0
	next := numbers(131)
	for _, n := range []impl.Network{strands(0, 0, 0), strands(1, 1, 2, 0), hub(), diamond(), square()} {
		routes := expectedRoutes(n)
		for range 1500 {
			a, b := randomService(n, routes, 1+next(3), next), randomService(n, routes, 1+next(3), next)
			want := expectedValidServices(n, []impl.Service{a, b})
			check(t, impl.IsValidServices, in(n, []impl.Service{a, b}), out(want))
			if !expectedValidService(n, a) || !expectedValidService(n, b) {
				checkFails(t, impl.AreCompatible, n, a, b)
				continue
			}
			check(t, impl.AreCompatible, in(n, a, b), out(expectedCompatible(n, a, b), true))
			if want {
				valid++
			} else {
				refused++
			}
		}
	}
	if valid < 300 || refused < 300 {
		t.Errorf("only %d lists are valid, and %d are not", valid, refused)
	}
}

func TestAreCompatible(t *testing.T) {
	n, b := strands(0, 0, 0, 1, 1), block(0, 4)
	yes, no := out(true, true), out(false, true)
	first := shared(1, route(0, 0), b, route(0, 2), b)
	// Spare slots are shared by shared services whose working routes are risk disjoint, and by no others.
	check(t, impl.AreCompatible, in(n, first, shared(2, route(0, 1), b, route(0, 2), b)), yes)
	check(t, impl.AreCompatible, in(n, first, shared(2, route(1, 1), b, route(1, 2), block(3, 9))), yes)
	check(t, impl.AreCompatible, in(n, first, dedicated(2, route(0, 1), b, route(0, 2), b)), no)
	check(t, impl.AreCompatible, in(n, dedicated(2, route(0, 1), b, route(0, 2), b), first), no)
	check(t, impl.AreCompatible, in(n, first, dedicated(2, route(0, 1), b, route(0, 2), block(4, 1))), yes)
	check(t, impl.AreCompatible, in(n, first, dedicated(2, route(0, 1), b, route(0, 2), block(3, 1))), no)
	check(t, impl.AreCompatible, in(n, first, shared(2, route(0, 0), block(4, 4), route(0, 2), b)), no)
	check(t, impl.AreCompatible, in(n, first, shared(2, route(0, 0), block(4, 4), route(0, 2), block(4, 4))), yes)
	check(t, impl.AreCompatible, in(n, shared(1, route(0, 3), b, route(0, 2), b), shared(2, route(0, 4), b, route(0, 2), b)), no)
	check(t, impl.AreCompatible, in(n, shared(1, route(0, 3), b, route(0, 2), b), shared(2, route(0, 4), b, route(0, 2), block(4, 2))), yes)
	// Working slots are not shared with working or spare slots.
	check(t, impl.AreCompatible, in(n, first, plain(2, route(0, 0), block(4, 1))), yes)
	check(t, impl.AreCompatible, in(n, first, plain(2, route(1, 0), block(3, 1))), no)
	check(t, impl.AreCompatible, in(n, first, plain(2, route(0, 2), block(3, 1))), no)
	check(t, impl.AreCompatible, in(n, plain(2, route(0, 2), block(0, 1)), first), no)
	check(t, impl.AreCompatible, in(n, first, shared(2, route(0, 2), b, route(0, 1), b)), no)
	check(t, impl.AreCompatible, in(n, first, shared(2, route(0, 1), b, route(0, 0), b)), no)
	// The Ids do not matter, and no service is compatible with itself.
	check(t, impl.AreCompatible, in(n, first, shared(1, route(0, 1), b, route(0, 2), b)), yes)
	check(t, impl.AreCompatible, in(n, first, first), no)
	for _, s := range badServices() {
		checkFails(t, impl.AreCompatible, square(), s, plain(1, route(0, 0), block(20, 1)))
		checkFails(t, impl.AreCompatible, square(), plain(1, route(0, 0), block(20, 1)), s)
	}
	for _, n := range brokenNetworks() {
		checkFails(t, impl.AreCompatible, n, plain(1, route(0, 0), b), plain(2, route(0, 0), block(4, 1)))
	}
}

func TestServiceMasksAndSharedSaving(t *testing.T) {
	n := square()
	list := fixedServices()[4].list
	check(t, impl.ServiceMasks, in(n, list), out([]int{63, 0, 63, 0}, []int{0, 31, 0, 31}, true))
	check(t, impl.SharedSaving, in(n, list), out(0, true))
	// Two services share four slots of one fiber; three share slots in part.
	check(t, impl.SharedSaving, in(hub(), fixedServices()[2].list), out(4, true))
	check(t, impl.SharedSaving, in(strands(0, 0, 0, 0), fixedServices()[6].list), out(5, true))
	check(t, impl.ServiceMasks, in(strands(0, 0, 0, 0), fixedServices()[6].list), out([]int{15, 15, 15, 0}, []int{0, 0, 0, 0x7c}, true))
	saved := 0
	for _, x := range sampleServices() {
		works, spares := make([]int, len(x.n.Fibers)), make([]int, len(x.n.Fibers))
		saving := 0
		for _, s := range x.list {
			for _, at := range places(s.Work, s.WorkBlock) {
				works[at/100] |= 1 << (at % 100)
			}
			for _, at := range places(s.Spare, s.SpareBlock) {
				spares[at/100] |= 1 << (at % 100)
				saving++
			}
		}
		for _, mask := range spares {
			saving -= bits.OnesCount(uint(mask))
		}
		check(t, impl.ServiceMasks, in(x.n, x.list), out(works, spares, true))
		check(t, impl.SharedSaving, in(x.n, x.list), out(saving, true))
		if saving > 0 {
			saved++
		}
	}
	if saved < 10 {
		t.Errorf("only %d lists share slots", saved)
	}
}

// expectedCheapestPair compares all pairs of usable routes, and returns their indices.
func expectedCheapestPair(n impl.Network, usable []impl.Route, slots []int) (int, int, bool) {
	var best [3]int
	found := false
	for i := range usable {
		for k := range usable {
			a, b := slots[i]*len(usable[i].Fibers), slots[k]*len(usable[k].Fibers)
			if a > b || a == b && i >= k || len(expectedRisks(n, usable[i], usable[k])) > 0 {
				continue
			}
			if x := [3]int{a + b, i, k}; !found || slices.Compare(x[:], best[:]) < 0 {
				best, found = x, true
			}
		}
	}
	return best[1], best[2], found
}

func TestCheapestPair(t *testing.T) {
	list := formats(1000, 10, 300, 20)
	check(t, impl.CheapestPair, in(square(), list, demand(0, 2, 50)), out(route(0, 0, 2), route(0, 1, 3), true))
	check(t, impl.CheapestPair, in(square(), list, impl.Demand{From: 2, To: 0, Rate: 50, Class: impl.ClassShared}), out(route(2, 2, 0), route(2, 3, 1), true))
	// The longer route costs less, because it has fewer fibers.
	check(t, impl.CheapestPair, in(trap(), formats(1000, 10), demand(0, 2, 50)), out(route(0, 1), route(0, 0, 2), true))
	// Equal costs: the smaller route is first, and of equal pairs the first ones are taken.
	check(t, impl.CheapestPair, in(trap(), list, demand(0, 2, 60)), out(route(0, 0, 2), route(0, 1), true))
	check(t, impl.CheapestPair, in(strands(0, 0, 0, 0), list, demand(1, 0, 60)), out(route(1, 0), route(1, 1), true))
	check(t, impl.CheapestPair, in(strands(1, 1, 1, 0), list, demand(1, 0, 60)), out(route(1, 0), route(1, 3), true))
	check(t, impl.CheapestPair, in(strands(1, 1, 2, 2), list, demand(0, 1, 60)), out(route(0, 0), route(0, 2), true))
	// Demands without a pair: a common risk, one route only, or one of two routes too long.
	checkFails(t, impl.CheapestPair, square(), list, demand(0, 3, 50))
	checkFails(t, impl.CheapestPair, strands(0), list, demand(0, 1, 50))
	checkFails(t, impl.CheapestPair, strands(2, 2), list, demand(0, 1, 50))
	checkFails(t, impl.CheapestPair, square(), formats(300, 20), demand(0, 2, 50))
	checkFails(t, impl.CheapestPair, square(), list, demand(0, 2, 241))
	checkFails(t, impl.CheapestPair, parallels(), list, demand(0, 3, 1))
	checkFails(t, impl.CheapestPair, network("a b"), list, demand(0, 1, 1))
	for _, d := range badDemands() {
		checkFails(t, impl.CheapestPair, square(), list, d)
	}
	for _, bad := range badFormats() {
		checkFails(t, impl.CheapestPair, square(), bad, demand(0, 2, 5))
	}
	for _, n := range brokenNetworks() {
		checkFails(t, impl.CheapestPair, n, list, demand(0, 1, 5))
	}
}

func TestCheapestPairOfSamples(t *testing.T) {
	next := numbers(132)
	forAllPairs(func(n impl.Network, from int, to int, routes []impl.Route) {
		list, d := sampleFormats()[next(8)], impl.Demand{From: from, To: to, Rate: 1 + next(impl.MaxRate)>>next(10), Class: next(3)}
		usable, slots := expectedUsable(n, list, routes, d.Rate)
		if a, b, ok := expectedCheapestPair(n, usable, slots); ok && from != to {
			check(t, impl.CheapestPair, in(n, list, d), out(usable[a], usable[b], true))
		} else {
			checkFails(t, impl.CheapestPair, n, list, d)
		}
	})
}

// expectedSettled returns the first block of so many slots for which a service, changed by set, is
// compatible with others.
func expectedSettled(n impl.Network, list []impl.Service, s impl.Service, count int, set func(s *impl.Service, b impl.Block)) (impl.Service, bool) {
	for first := 0; first+count <= impl.MaxSlots; first++ {
		set(&s, block(first, count))
		if !slices.ContainsFunc(list, func(other impl.Service) bool { return !expectedCompatible(n, s, other) }) {
			return s, true
		}
	}
	return s, false
}

// expectedAdded returns the list with a service for a demand, and its Id, or false.
func expectedAdded(n impl.Network, f []impl.Format, list []impl.Service, d impl.Demand) ([]impl.Service, int, bool) {
	usable, slots := expectedUsable(n, f, expectedAll(n, d.From, d.To), d.Rate)
	work, _ := expectedCheapest(usable, slots)
	spare, ok := 0, work >= 0
	if d.Class != impl.ClassPlain {
		work, spare, ok = expectedCheapestPair(n, usable, slots)
	}
	if !ok || len(list) == impl.MaxServices {
		return nil, 0, false
	}
	s := plain(1, usable[work], impl.Block{})
	for slices.ContainsFunc(list, func(other impl.Service) bool { return other.Id == s.Id }) {
		s.Id++
	}
	s, ok = expectedSettled(n, list, s, slots[work], func(s *impl.Service, b impl.Block) { s.WorkBlock = b })
	if ok && d.Class != impl.ClassPlain {
		s.Class, s.Spare = d.Class, usable[spare]
		s, ok = expectedSettled(n, list, s, slots[spare], func(s *impl.Service, b impl.Block) { s.SpareBlock = b })
	}
	if !ok {
		return nil, 0, false
	}
	list = append(slices.Clone(list), s)
	slices.SortFunc(list, func(a impl.Service, b impl.Service) int { return a.Id - b.Id })
	return list, s.Id, true
}

func TestAddService(t *testing.T) {
	n, f := square(), formats(1000, 10, 300, 20)
	d := demand(0, 2, 50)
	one := []impl.Service{plain(1, route(0, 0, 2), block(0, 3))}
	check(t, impl.AddService, in(n, f, []impl.Service{}, d), out(one, 1, true))
	d.Class = impl.ClassDedicated
	check(t, impl.AddService, in(n, f, one, d), out([]impl.Service{one[0], dedicated(2, route(0, 0, 2), block(3, 3), route(0, 1, 3), block(0, 5))}, 2, true))
	d.Class = impl.ClassShared
	check(t, impl.AddService, in(n, f, one, d), out([]impl.Service{one[0], shared(2, route(0, 0, 2), block(3, 3), route(0, 1, 3), block(0, 5))}, 2, true))
	// Two services share the slots of e-f; a dedicated one does not, and one with a common risk neither.
	b := block(0, 3)
	x := shared(1, route(0, 0), b, route(0, 1, 6, 2), b)
	d = impl.Demand{From: 2, To: 3, Rate: 50, Class: impl.ClassShared}
	check(t, impl.AddService, in(hub(), f, []impl.Service{x}, d), out([]impl.Service{x, shared(2, route(2, 3), b, route(2, 4, 6, 5), b)}, 2, true))
	d.Class = impl.ClassDedicated
	check(t, impl.AddService, in(hub(), f, []impl.Service{x}, d), out([]impl.Service{x, dedicated(2, route(2, 3), b, route(2, 4, 6, 5), block(3, 3))}, 2, true))
	d = impl.Demand{From: 0, To: 1, Rate: 50, Class: impl.ClassShared}
	check(t, impl.AddService, in(hub(), f, []impl.Service{x}, d), out([]impl.Service{x, shared(2, route(0, 0), block(3, 3), route(0, 1, 6, 2), block(3, 3))}, 2, true))
	// Working slots keep off spare slots, and the block may lie between others.
	list := []impl.Service{plain(3, route(0, 0), block(0, 2)), shared(4, route(0, 1), b, route(0, 0), block(5, 3)), plain(9, route(1, 0), block(11, 4))}
	check(t, impl.AddService, in(strands(0, 0), f, list, demand(0, 1, 60)), out(slices.Insert(slices.Clone(list), 0, plain(1, route(0, 0), block(2, 3))), 1, true))
	check(t, impl.AddService, in(strands(0, 0), f, list, demand(0, 1, 61)), out(slices.Insert(slices.Clone(list), 0, plain(1, route(0, 0), block(15, 4))), 1, true))
	list[0].Id, list[1].Id = 1, 2
	check(t, impl.AddService, in(strands(0, 0), f, list, demand(1, 0, 20)), out(slices.Insert(slices.Clone(list), 2, plain(3, route(1, 0), block(2, 1))), 3, true))
}

func TestAddServiceFails(t *testing.T) {
	n, f := square(), formats(1000, 10, 300, 20)
	d := impl.Demand{From: 0, To: 3, Rate: 50, Class: impl.ClassShared}
	// No pair, no route, no working block, no spare block.
	checkFails(t, impl.AddService, n, f, []impl.Service{}, d)
	d.Class = impl.ClassDedicated
	checkFails(t, impl.AddService, n, f, []impl.Service{}, d)
	checkFails(t, impl.AddService, n, f, []impl.Service{}, demand(0, 1, 481))
	checkFails(t, impl.AddService, n, f, []impl.Service{plain(1, route(0, 0), block(2, 20))}, demand(0, 1, 50))
	check(t, impl.AddService, in(n, f, []impl.Service{plain(1, route(0, 0), block(2, 20))}, demand(0, 1, 40)),
		out([]impl.Service{plain(1, route(0, 0), block(2, 20)), plain(2, route(0, 0), block(0, 2))}, 2, true))
	d = impl.Demand{From: 0, To: 2, Rate: 50, Class: impl.ClassDedicated}
	checkFails(t, impl.AddService, n, f, []impl.Service{plain(1, route(0, 0), block(2, 20))}, d)
	checkFails(t, impl.AddService, n, f, []impl.Service{plain(1, route(0, 1), block(4, 16))}, d)
	check(t, impl.AddService, in(n, f, []impl.Service{plain(1, route(0, 1), block(4, 15))}, d),
		out([]impl.Service{plain(1, route(0, 1), block(4, 15)), dedicated(2, route(0, 0, 2), block(0, 3), route(0, 1, 3), block(19, 5))}, 2, true))
	// MaxServices services.
	full := fixedServices()[3].list
	checkFails(t, impl.AddService, strands(0, 0), f, full, demand(0, 1, 1))
	checkFails(t, impl.AddService, strands(0, 0), f, full, impl.Demand{From: 0, To: 1, Rate: 1, Class: impl.ClassShared})
	for _, d := range badDemands() {
		checkFails(t, impl.AddService, n, f, []impl.Service{}, d)
	}
	for _, bad := range badFormats() {
		checkFails(t, impl.AddService, n, bad, []impl.Service{}, demand(0, 2, 5))
	}
	for _, list := range brokenServices() {
		checkFails(t, impl.AddService, n, f, list, demand(0, 2, 5))
	}
	for _, n := range brokenNetworks() {
		checkFails(t, impl.AddService, n, f, []impl.Service{}, demand(0, 1, 5))
	}
}

func TestAddServiceUpToTheLimit(t *testing.T) {
	n, f := strands(0, 1, 1, 0), formats(1000, 10)
	for class := impl.ClassPlain; class <= impl.ClassShared; class++ {
		var list []impl.Service
		for id := 1; id <= impl.MaxServices; id++ {
			want, _, _ := expectedAdded(n, f, list, impl.Demand{From: 1, To: 0, Rate: 25, Class: class})
			check(t, impl.AddService, in(n, f, list, impl.Demand{From: 1, To: 0, Rate: 25, Class: class}), out(want, id, true))
			list = want
		}
		checkFails(t, impl.AddService, n, f, list, demand(0, 1, 1))
	}
}

func TestAddServiceToSamples(t *testing.T) {
	next := numbers(133)
	added, failed := 0, 0
	for _, x := range sampleServices() {
		for range 12 {
			f, from := sampleFormats()[next(8)], next(len(x.n.Nodes))
			d := impl.Demand{From: from, To: (from + 1 + next(len(x.n.Nodes)-1)) % len(x.n.Nodes), Rate: 1 + next(80), Class: next(3)}
			if list, id, ok := expectedAdded(x.n, f, x.list, d); ok {
				check(t, impl.AddService, in(x.n, f, x.list, d), out(list, id, true))
				added++
			} else {
				checkFails(t, impl.AddService, x.n, f, x.list, d)
				failed++
			}
		}
	}
	if added < 100 || failed < 100 {
		t.Errorf("only %d services are added, and %d are not", added, failed)
	}
}

func TestDropService(t *testing.T) {
	for _, x := range sampleServices() {
		ids := []int{}
		for i, s := range x.list {
			ids = append(ids, s.Id)
			check(t, impl.DropService, in(x.n, x.list, s.Id), out(slices.Delete(slices.Clone(x.list), i, i+1), true))
		}
		for _, id := range []int{0, 1, 2, 3, 6, 500, impl.MaxId, -1, impl.MaxId + 1, minInt, maxInt} {
			if !slices.Contains(ids, id) {
				checkFails(t, impl.DropService, x.n, x.list, id)
			}
		}
	}
}

func TestPlanOf(t *testing.T) {
	n := square()
	list := fixedServices()[4].list
	lights := []impl.Light{light(1, route(0, 0, 2), 0, 3), light(2, route(0, 0, 2), 3, 3), light(502, route(0, 1, 3), 0, 5)}
	check(t, impl.PlanOf, in(n, list), out(plan(n, lights...), true))
	check(t, impl.PlanOf, in(hub(), fixedServices()[2].list), out(plan(hub(), light(1, route(0, 0), 0, 4), light(2, route(2, 3), 0, 4)), true))
	check(t, impl.PlanOf, in(n, []impl.Service{}), out(plan(n), true))
	// Ids of 499 and 500.
	for _, class := range []int{impl.ClassPlain, impl.ClassDedicated, impl.ClassShared} {
		s := impl.Service{Id: 499, Class: class, Work: route(0, 0, 2), WorkBlock: block(0, 3)}
		lights := []impl.Light{light(499, route(0, 0, 2), 0, 3)}
		if class != impl.ClassPlain {
			s.Spare, s.SpareBlock = route(0, 1, 3), block(2, 3)
		}
		if class == impl.ClassDedicated {
			lights = append(lights, light(999, route(0, 1, 3), 2, 3))
		}
		check(t, impl.PlanOf, in(n, []impl.Service{s}), out(plan(n, lights...), true))
		s.Id = 500
		checkFails(t, impl.PlanOf, n, []impl.Service{s})
		checkFails(t, impl.PlanOf, n, []impl.Service{plain(3, route(1, 2), block(9, 1)), s})
	}
	// Eight services with twelve lights, and with thirteen.
	full := []impl.Service{}
	for i := range impl.MaxServices {
		s := plain(i+1, route(0, 0), block(3*i, 3))
		if i >= 4 {
			s = dedicated(i+1, route(0, 0), block(3*i, 3), route(0, 1), block(3*i, 3))
		}
		full = append(full, s)
	}
	got := call(t, impl.PlanOf, strands(0, 0), full)
	if p := got[0].(impl.Plan); got[1] != true || len(p.Lights) != impl.MaxLights || p.Lights[11].Id != 508 || p.Lights[8].Id != 505 {
		t.Errorf("PlanOf(%v) = %v", full, got)
	}
	full[0] = dedicated(1, route(0, 0), block(0, 3), route(0, 1), block(0, 3))
	checkFails(t, impl.PlanOf, strands(0, 0), full)
}

func TestProtectionFails(t *testing.T) {
	failing := func(n impl.Network, list []impl.Service) {
		checkFails(t, impl.ServiceMasks, n, list)
		checkFails(t, impl.DropService, n, list, 5)
		checkFails(t, impl.DropService, n, list, 9)
		checkFails(t, impl.SharedSaving, n, list)
		checkFails(t, impl.PlanOf, n, list)
	}
	for _, list := range brokenServices() {
		failing(square(), list)
	}
	for _, n := range brokenNetworks() {
		failing(n, []impl.Service{})
		failing(n, []impl.Service{plain(9, route(0, 0), block(0, 1))})
	}
}
