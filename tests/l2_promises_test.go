package tests

import (
	"slices"
	"testing"

	"loop.example/g00897/impl"
)

// The tests of this file would fail if promise 2, or promise 29 for a function of chapter 2, were
// broken.

func TestPromise2RiskGroupsArePartition(t *testing.T) {
	for _, n := range append(sampleNetworks(), randomNetworks(300, 5)...) {
		groups, ok := impl.RiskGroups(n)
		var all []int
		for _, group := range groups {
			if len(group) == 0 || !slices.IsSorted(group) {
				t.Errorf("%v has the risk group %v", n, group)
			}
			all = append(all, group...)
		}
		slices.Sort(all)
		if !ok || len(all) != len(n.Fibers) || len(slices.Compact(all)) != len(n.Fibers) {
			t.Errorf("%v has the risk groups %v, %v", n, groups, ok)
		}
	}
}

// TestPromise2RiskGroupsFailTogether compares the groups, and their order, with the Risks.
func TestPromise2RiskGroupsFailTogether(t *testing.T) {
	for _, n := range append(sampleNetworks(), randomNetworks(300, 6)...) {
		groups, _ := impl.RiskGroups(n)
		last := -1
		for _, group := range groups {
			for _, fiber := range group {
				check(t, impl.FailingWith, in(n, fiber), out(group, true))
			}
			first := n.Fibers[group[0]]
			for i, f := range n.Fibers {
				together := i == group[0] || f.Risk > 0 && f.Risk == first.Risk
				if slices.Contains(group, i) != together {
					t.Errorf("%v has the risk group %v", n, group)
				}
			}
			rank := first.Risk
			if rank == 0 {
				rank = impl.MaxRisk + 1 + group[0]
			}
			if rank <= last {
				t.Errorf("%v has the risk groups %v in this order", n, groups)
			}
			last = rank
		}
	}
}

func networkCandidates() candidates {
	c := candidates{}
	for _, n := range append(sampleNetworks(), brokenNetworks()...) {
		c.add(n)
	}
	c.add(minInt, -1, 0, 1, 3, 7, 8, 13, 14, maxInt)
	c.add("", "a", "b", "abcdefgh", "abcdefghi", "\x00", "n0")
	c.add([]int(nil), []int{}, []int{0}, []int{1, 2}, []int{0, 1, 2, 3}, []int{2, 1}, []int{0, 0}, []int{-1}, []int{14}, []int{minInt, maxInt})
	c.add(impl.Fiber{}, impl.Fiber{A: 0, B: 1, Length: 1}, impl.Fiber{A: 1, B: 2, Length: 5000, Risk: 9}, impl.Fiber{A: 1, B: 0, Length: 1},
		impl.Fiber{A: minInt, B: maxInt, Length: maxInt, Risk: minInt})
	return c
}

// startsWithBrokenNetwork reports whether the first argument is a network that is not valid.
func startsWithBrokenNetwork(args []any) bool {
	n, ok := args[0].(impl.Network)
	return ok && !impl.IsValidNetwork(n)
}

func TestPromise29NetworkFunctions(t *testing.T) {
	c := networkCandidates()
	for _, f := range []any{impl.IsValidNetwork, impl.NodeNumber, impl.OtherEnd, impl.FibersAt, impl.RiskGroups, impl.FailingWith,
		impl.RemoveFibers, impl.AddFiber, impl.TotalLength} {
		sweep(t, f, c, 2000, startsWithBrokenNetwork)
	}
}
