package tests

import (
	"slices"
	"testing"

	"loop.example/g00897/impl"
)

// The tests of this file would fail if promise 6, or promise 29 for a function of chapter 6, were
// broken.

func TestPromise6MinimumCutSeparatesWithoutFiberToSpare(t *testing.T) {
	for _, n := range append(sampleNetworks(), randomNetworks(60, 8)...) {
		for from := range n.Nodes {
			for to := range n.Nodes {
				if from == to {
					continue
				}
				cut, ok := impl.MinimumCut(n, from, to)
				if after, fine := impl.ComponentsOf(n, cut); !ok || !fine || after[from] == after[to] {
					t.Errorf("MinimumCut(%v, %d, %d) = %v, %v does not separate", n, from, to, cut, ok)
				}
				for i := range cut {
					fewer := slices.Delete(slices.Clone(cut), i, i+1)
					if after, _ := impl.ComponentsOf(n, fewer); after[from] != after[to] {
						t.Errorf("MinimumCut(%v, %d, %d) = %v, but %v is enough", n, from, to, cut, fewer)
					}
				}
			}
		}
	}
}

func TestPromise6MinimumCutHasAsManyFibersAsDisjointRoutes(t *testing.T) {
	for _, n := range append(sampleNetworks(), randomNetworks(200, 8)...) {
		for from := range n.Nodes {
			for to := range n.Nodes {
				cut, ok := impl.MinimumCut(n, from, to)
				count, fine := impl.DisjointCount(n, from, to)
				if ok != (from != to) || fine != ok || len(cut) != count {
					t.Errorf("MinimumCut(%v, %d, %d) = %v, %v, and DisjointCount = %d, %v", n, from, to, cut, ok, count, fine)
				}
			}
		}
	}
}

func TestPromise29CutFunctions(t *testing.T) {
	c := routeCandidates()
	for _, f := range []any{impl.ComponentsOf, impl.IsConnected, impl.Bridges, impl.CutNodes, impl.CriticalGroups, impl.FibersBetween,
		impl.MinimumCut, impl.DisjointCount, impl.GroupCut} {
		sweep(t, f, c, 3000, startsWithBrokenNetwork)
	}
}
