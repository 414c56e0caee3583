package tests

import (
	"testing"

	"loop.example/g00897/impl"
)

// The tests of this file would fail if promise 7, or promise 29 for a function of chapter 7, were
// broken.

// TestPromise7BestPairIsDisjointAndShortest compares the best pair with all pairs of routes.
func TestPromise7BestPairIsDisjointAndShortest(t *testing.T) {
	for _, n := range append(sampleNetworks(), randomNetworks(40, 6)...) {
		for from := range n.Nodes {
			for to := range n.Nodes {
				for _, kind := range kinds {
					if from != to {
						checkBestPair(t, n, from, to, kind)
					}
				}
			}
		}
	}
}

func checkBestPair(t *testing.T, n impl.Network, from int, to int, kind int) {
	t.Helper()
	a, b, found, ok := impl.BestPair(n, from, to, kind)
	length, fine := impl.PairLength(n, from, to, kind)
	if !ok || !fine {
		t.Fatalf("BestPair(%v, %d, %d, %d) fails", n, from, to, kind)
	}
	if found {
		disjoint, valid := impl.AreDisjoint(n, a, b, kind)
		order, _ := impl.CompareRoutes(n, a, b)
		x, _ := impl.RouteLength(n, a)
		y, _ := impl.RouteLength(n, b)
		nodes, _ := impl.RouteNodes(n, a)
		if !disjoint || !valid || order != -1 || x+y != length || nodes[0] != from || nodes[len(nodes)-1] != to {
			t.Errorf("BestPair(%v, %d, %d, %d) = %v, %v of the length %d", n, from, to, kind, a, b, length)
		}
	}
	routes, _ := impl.AllRoutes(n, from, to)
	for i, a := range routes {
		for _, b := range routes[i+1:] {
			disjoint, _ := impl.AreDisjoint(n, a, b, kind)
			x, _ := impl.RouteLength(n, a)
			y, _ := impl.RouteLength(n, b)
			if disjoint && (!found || x+y < length) {
				t.Errorf("BestPair(%v, %d, %d, %d) has the length %d, but %v and %v have %d", n, from, to, kind, length, a, b, x+y)
			}
		}
	}
}

func TestPromise7TwoRoutesNeedTwoFibersToSeparate(t *testing.T) {
	for _, n := range append(sampleNetworks(), randomNetworks(150, 8)...) {
		for from := range n.Nodes {
			for to := range n.Nodes {
				if from == to {
					continue
				}
				_, _, found, ok := impl.BestPair(n, from, to, impl.DisjointFibers)
				cut, fine := impl.MinimumCut(n, from, to)
				if !ok || !fine || found != (len(cut) >= 2) {
					t.Errorf("BestPair(%v, %d, %d) exists: %v, but the cut is %v", n, from, to, found, cut)
				}
			}
		}
	}
}

func TestPromise29DisjointFunctions(t *testing.T) {
	c := routeCandidates()
	c.add(2)
	for _, f := range []any{impl.AreDisjoint, impl.PartnerOf, impl.CountPairs, impl.BestPair, impl.PairLength, impl.IsTrap,
		impl.UnprotectedPairs, impl.CommonRisks} {
		sweep(t, f, c, 3000, startsWithBrokenNetwork)
	}
}
