package tests

import (
	"slices"
	"testing"

	"loop.example/g00897/impl"
)

// The tests of this file would fail if promise 13, or promise 29 for a function of chapter 13, were
// broken.

// checkProtected checks that no risk group hits both routes of a service, and that no slot is needed
// twice after any single group has failed: neither by working routes and dedicated spare routes,
// which are in use all the time, nor by the spare routes of services that the group hits.
func checkProtected(t *testing.T, n impl.Network, list []impl.Service) {
	t.Helper()
	groups, _ := impl.RiskGroups(n)
	for _, group := range append(groups, nil) {
		needed := map[int]int{}
		need := func(id int, places []int) {
			for _, place := range places {
				if needed[place] != 0 {
					t.Errorf("the services %d and %d of %v need the same slot if %v fail", needed[place], id, list, group)
				}
				needed[place] = id
			}
		}
		for _, s := range list {
			hit := have(s.Work.Fibers, group)
			if hit && have(s.Spare.Fibers, group) {
				t.Errorf("%v hits both routes of %v", group, s)
			}
			if !hit {
				need(s.Id, places(s.Work, s.WorkBlock))
			}
			if hit && s.Class == impl.ClassShared || s.Class == impl.ClassDedicated {
				need(s.Id, places(s.Spare, s.SpareBlock))
			}
		}
	}
}

// TestPromise13ProtectedServicesAreNeverHitTogether adds services to random networks until it is not
// possible any more.
func TestPromise13ProtectedServicesAreNeverHitTogether(t *testing.T) {
	next := numbers(134)
	saved := 0
	for _, n := range append(append(sampleNetworks(), hub(), hub(), strands(0, 1, 1, 2)), randomNetworks(60, 6)...) {
		var list []impl.Service
		f := sampleFormats()[next(8)]
		for range 12 {
			from := next(len(n.Nodes))
			d := impl.Demand{From: from, To: (from + 1 + next(len(n.Nodes)-1)) % len(n.Nodes), Rate: 1 + next(50), Class: []int{0, 1, 2, 2, 2}[next(5)]}
			longer, id, ok := impl.AddService(n, f, list, d)
			if !ok {
				continue
			}
			i := slices.IndexFunc(longer, func(s impl.Service) bool { return s.Id == id })
			if len(longer) != len(list)+1 || longer[i].Class != d.Class || !impl.IsValidServices(n, longer) {
				t.Errorf("%v becomes %v with a service for %v", list, longer, d)
			}
			list = longer
			checkProtected(t, n, list)
		}
		if saving, ok := impl.SharedSaving(n, list); !ok || saving < 0 {
			t.Errorf("%v save %d slots", list, saving)
		} else if saving > 0 {
			saved++
		}
	}
	if saved < 3 {
		t.Errorf("only %d lists of services share slots", saved)
	}
}

// TestPromise13ValidServicesAreNeverHitTogether checks the random lists, which share more slots than
// AddService does, and what is left if a service is dropped.
func TestPromise13ValidServicesAreNeverHitTogether(t *testing.T) {
	for _, x := range sampleServices() {
		if !impl.IsValidServices(x.n, x.list) {
			t.Fatalf("%v are not valid", x.list)
		}
		checkProtected(t, x.n, x.list)
		for _, s := range x.list {
			rest, ok := impl.DropService(x.n, x.list, s.Id)
			if !ok || !impl.IsValidServices(x.n, rest) {
				t.Errorf("%v becomes %v without %d", x.list, rest, s.Id)
			}
		}
		if p, ok := impl.PlanOf(x.n, x.list); ok {
			checkSlots(t, p)
		}
	}
}

// addServices adds valid and invalid lists of services, and services.
func addServices(c candidates) {
	for _, x := range fixedServices() {
		c.add(x.n, x.list)
	}
	for i, list := range brokenServices() {
		if i < 16 {
			c.add(list)
		}
	}
	for i, s := range badServices() {
		if i%9 == 0 {
			c.add(s)
		}
	}
	for _, s := range fixedServices()[9].list {
		c.add(s)
	}
	c.add(plain(1, route(0, 0), block(0, 3)), shared(2, route(0, 0), block(3, 3), route(0, 1), block(0, 3)), impl.Service{}, impl.Service{Id: 1, Class: minInt})
}

func serviceCandidates() candidates {
	c := routeCandidates()
	addDemands(c)
	addServices(c)
	return c
}

func TestPromise29ProtectionFunctions(t *testing.T) {
	c := serviceCandidates()
	for _, f := range []any{impl.IsValidServices, impl.AreCompatible, impl.ServiceMasks, impl.CheapestPair, impl.AddService, impl.DropService,
		impl.SharedSaving, impl.PlanOf} {
		sweep(t, f, c, 4000, startsWithBrokenNetwork)
	}
}
