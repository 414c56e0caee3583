package tests

import (
	"slices"
	"testing"

	"loop.example/g00897/impl"
)

// The tests of this file would fail if promise 14, or promise 29 for a function of chapter 14, were
// broken.

// TestPromise14OneFailureLosesNoProtectedService fails every single group, and all lists of two or
// three of them.
func TestPromise14OneFailureLosesNoProtectedService(t *testing.T) {
	singles, losses := 0, 0
	for _, x := range sampleServices() {
		for _, failed := range groupLists(x.n) {
			status, ok := impl.StatusAfter(x.n, x.list, failed)
			if !ok || len(status) != len(x.list) {
				t.Fatalf("StatusAfter(%v, %v) = %v, %v", x, failed, status, ok)
			}
			checkApartAfter(t, x, failed, status)
			for i, s := range x.list {
				if status[i] == impl.StatusLost && s.Class != impl.ClassPlain {
					losses++
					if len(failed) < 2 {
						t.Errorf("%v loses the service %v", failed, s)
					}
				}
			}
			if len(failed) == 1 {
				singles++
			}
		}
		check(t, impl.FirstLoss, in(x.n, x.list, 1), out([]int{}, 0, false, true))
	}
	if singles < 200 || losses < 200 {
		t.Errorf("only %d groups are tried alone, and %d protected services are lost to several", singles, losses)
	}
}

// checkApartAfter checks that no slot is used by two services after a failure, that none is used on
// a failed fiber, that ActiveMasks has exactly the slots that are used, and that every service that
// is not lost uses a whole route.
func checkApartAfter(t *testing.T, x serviceCase, failed []int, status []int) {
	t.Helper()
	gone := goneWith(x.n, failed)
	owners := map[int]int{}
	masks := make([]int, len(x.n.Fibers))
	use := func(s impl.Service, r impl.Route, b impl.Block) {
		if len(r.Fibers) == 0 || have(r.Fibers, gone) {
			t.Errorf("the service %v uses %v after %v have failed", s, r, gone)
		}
		for _, place := range places(r, b) {
			if owner := owners[place]; owner != 0 {
				t.Errorf("the services %d and %d of %v share a slot after %v have failed", owner, s.Id, x, gone)
			}
			owners[place] = s.Id
			masks[place/100] |= 1 << (place % 100)
		}
	}
	for i, s := range x.list {
		switch status[i] {
		case impl.StatusUnaffected:
			use(s, s.Work, s.WorkBlock)
			if s.Class == impl.ClassDedicated {
				use(s, s.Spare, s.SpareBlock)
			}
		case impl.StatusDegraded:
			use(s, s.Work, s.WorkBlock)
		case impl.StatusSwitched:
			use(s, s.Spare, s.SpareBlock)
		}
	}
	if active, ok := impl.ActiveMasks(x.n, x.list, failed); !ok || !slices.Equal(active, masks) {
		t.Errorf("ActiveMasks(%v, %v) = %v instead of %v", x, failed, active, masks)
	}
}

// TestPromise14AddedServicesSurvive adds services, and fails every group.
func TestPromise14AddedServicesSurvive(t *testing.T) {
	next := numbers(141)
	for _, n := range append(randomNetworks(40, 6), hub(), square(), strands(0, 1, 2)) {
		x := serviceCase{n: n}
		for range 10 {
			from := next(len(n.Nodes))
			d := impl.Demand{From: from, To: (from + 1 + next(len(n.Nodes)-1)) % len(n.Nodes), Rate: 1 + next(30), Class: 1 + next(2)}
			if list, _, ok := impl.AddService(n, formats(20000, 10), x.list, d); ok {
				x.list = list
			}
		}
		if losing, ok := impl.LosingGroups(n, x.list); !ok || len(losing) > 0 {
			t.Errorf("%v lose services of %v", losing, x)
		}
	}
}

func TestPromise29FailureFunctions(t *testing.T) {
	c := serviceCandidates()
	c.add([]int{10, 20}, []int{0, 3}, []int{1, 1000}, []int{0, 1}, []int{2}, []int{5, 5, 5}, 2)
	for _, f := range []any{impl.StatusAfter, impl.LostServices, impl.FirstLoss, impl.ActiveMasks, impl.LostRate, impl.WorstPair,
		impl.LosingGroups, impl.RepairOrder} {
		sweep(t, f, c, 4000, startsWithBrokenNetwork)
	}
	// Most services of the sweep do not belong to its networks; these do.
	for _, x := range sampleServices() {
		groups, _ := impl.RiskGroups(x.n)
		for _, failed := range [][]int{nil, {0}, {1, 2}, upTo(len(groups)), {len(groups)}, {-1}, {1, 0}} {
			call(t, impl.StatusAfter, x.n, x.list, failed)
			call(t, impl.LostServices, x.n, x.list, failed)
			call(t, impl.ActiveMasks, x.n, x.list, failed)
			call(t, impl.LostRate, x.n, x.list, ratesFor(x.list), failed)
			call(t, impl.RepairOrder, x.n, x.list, ratesFor(x.list), failed)
		}
		for size := -1; size <= 4; size++ {
			call(t, impl.FirstLoss, x.n, x.list, size)
		}
		call(t, impl.WorstPair, x.n, x.list, ratesFor(x.list))
		call(t, impl.LosingGroups, x.n, x.list)
	}
}
