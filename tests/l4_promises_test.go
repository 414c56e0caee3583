package tests

import (
	"testing"

	"loop.example/g00897/impl"
)

// The tests of this file would fail if promise 4, or promise 29 for a function of chapter 4, were
// broken.

func TestPromise4ReversingKeepsTheLength(t *testing.T) {
	for _, n := range append(sampleNetworks(), randomNetworks(100, 5)...) {
		for _, r := range expectedRoutes(n) {
			back, ok := impl.ReverseRoute(n, r)
			length, _ := impl.RouteLength(n, r)
			reversed, fine := impl.RouteLength(n, back)
			if !ok || !fine || reversed != length || length != expectedLength(n, r) {
				t.Errorf("%v of %v has the length %d, and %v the length %d", r, n, length, back, reversed)
			}
			if again, _ := impl.ReverseRoute(n, back); again.Start != r.Start {
				t.Errorf("%v of %v is reversed to %v, and then to %v", r, n, back, again)
			}
		}
	}
}

// TestPromise4JoiningKeepsTheLength splits all routes and joins the parts, and joins all routes
// that cannot be joined.
func TestPromise4JoiningKeepsTheLength(t *testing.T) {
	for _, n := range append(sampleNetworks(), randomNetworks(30, 5)...) {
		for _, r := range expectedRoutes(n) {
			nodes := expectedNodes(n, r)
			for at := 1; at < len(r.Fibers); at++ {
				a, b := route(r.Start, r.Fibers[:at]...), route(nodes[at], r.Fibers[at:]...)
				joined, ok := impl.JoinRoutes(n, a, b)
				length, fine := impl.RouteLength(n, joined)
				if !ok || !fine || length != expectedLength(n, a)+expectedLength(n, b) {
					t.Errorf("%v and %v of %v are joined to %v, %v, of the length %d", a, b, n, joined, ok, length)
				}
			}
		}
	}
}

func TestPromise4JoiningAllRoutes(t *testing.T) {
	for _, n := range []impl.Network{square(), trap(), network("a b c", [4]int{0, 1, 1}, [4]int{0, 1, 1}, [4]int{1, 2, 1})} {
		routes := expectedRoutes(n)
		for _, a := range routes {
			nodes := expectedNodes(n, a)
			for _, b := range routes {
				visited := map[int]bool{}
				for _, node := range append(expectedNodes(n, b), nodes[:len(nodes)-1]...) {
					visited[node] = true
				}
				joins := b.Start == nodes[len(nodes)-1] && len(visited) == len(a.Fibers)+len(b.Fibers)+1
				if !joins {
					checkFails(t, impl.JoinRoutes, n, a, b)
					continue
				}
				joined := route(a.Start, append(append([]int(nil), a.Fibers...), b.Fibers...)...)
				check(t, impl.JoinRoutes, in(n, a, b), out(joined, true))
			}
		}
	}
}

func routeCandidates() candidates {
	c := networkCandidates()
	c.add(impl.Route{}, route(0, 0), route(0, 1), route(1, 0), route(0, 0, 2), route(0, 0, 3), route(3, 13), route(minInt, maxInt), route(0, minInt),
		route(0, 0, 1, 2, 3, 4, 5, 6, 7, 8, 9))
	c.add([]impl.Route(nil), []impl.Route{{}}, []impl.Route{route(0, 0), route(0, 0)}, make([]impl.Route, impl.MaxRoutes+1), []impl.Route{route(0, 0), route(9, 9)})
	return c
}

func TestPromise29RouteFunctions(t *testing.T) {
	c := routeCandidates()
	for _, f := range []any{impl.IsValidRoute, impl.RouteNodes, impl.RouteLength, impl.CompareRoutes, impl.ReverseRoute, impl.JoinRoutes,
		impl.AllRoutes, impl.SharedFibers, impl.RiskDisjoint, impl.RoutesThrough} {
		sweep(t, f, c, 3000, startsWithBrokenNetwork)
	}
}
