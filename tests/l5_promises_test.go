package tests

import (
	"testing"

	"loop.example/g00897/impl"
)

// The tests of this file would fail if promise 5, or promise 29 for a function of chapter 5, were
// broken.

func TestPromise5DistancesObeyTheTriangleInequality(t *testing.T) {
	for _, n := range append(sampleNetworks(), randomNetworks(200, 8)...) {
		for from := range n.Nodes {
			d, ok := impl.Distances(n, from)
			if !ok || len(d) != len(n.Nodes) || d[from] != 0 {
				t.Fatalf("Distances(%v, %d) = %v, %v", n, from, d, ok)
			}
			for _, f := range n.Fibers {
				if (d[f.A] < 0) != (d[f.B] < 0) || d[f.A] > d[f.B]+f.Length || d[f.B] > d[f.A]+f.Length {
					t.Errorf("Distances(%v, %d) = %v, and a fiber is %v", n, from, d, f)
				}
			}
		}
	}
}

func TestPromise5RoutesReachTheDistances(t *testing.T) {
	for _, n := range append(sampleNetworks(), randomNetworks(200, 8)...) {
		for from := range n.Nodes {
			d, _ := impl.Distances(n, from)
			for to := range n.Nodes {
				r, ok := impl.ShortestRoute(n, from, to)
				if ok != (from != to && d[to] >= 0) {
					t.Errorf("ShortestRoute(%v, %d, %d) = %v, %v", n, from, to, r, ok)
				}
				if !ok {
					continue
				}
				nodes, _ := impl.RouteNodes(n, r)
				length, fine := impl.RouteLength(n, r)
				if !fine || nodes[0] != from || nodes[len(nodes)-1] != to || length != d[to] {
					t.Errorf("ShortestRoute(%v, %d, %d) = %v of the length %d, but the distance is %d", n, from, to, r, length, d[to])
				}
			}
		}
	}
}

func TestPromise29ShortestRouteFunctions(t *testing.T) {
	c := routeCandidates()
	for _, f := range []any{impl.Distances, impl.ShortestRoute, impl.ShortestRoutes, impl.FewestFibers, impl.ShortestAvoiding,
		impl.ShortestVia, impl.Diameter, impl.DetourFactor} {
		sweep(t, f, c, 3000, startsWithBrokenNetwork)
	}
}
