package tests

import (
	"slices"
	"strings"
	"testing"

	"loop.example/g00897/impl"
)

// The tests of this file compare every function of chapter 2 with what the document states:
// ordinary inputs, the edge cases that the chapter names, and invalid inputs.

func TestIsValidNetwork(t *testing.T) {
	for _, n := range sampleNetworks() {
		check(t, impl.IsValidNetwork, in(n), out(true))
	}
	for _, n := range brokenNetworks() {
		check(t, impl.IsValidNetwork, in(n), out(false))
	}
}

func TestIsValidNetworkNames(t *testing.T) {
	for _, name := range []string{"a", "z", "a0", "a9", "zz", "abcdefgh", "a1234567", "z9a8b7c6"} {
		check(t, impl.IsValidNetwork, in(impl.Network{Nodes: []string{name, "b"}}), out(true))
	}
	for _, name := range badNames() {
		check(t, impl.IsValidNetwork, in(impl.Network{Nodes: []string{"b", name}}), out(false))
	}
	for c := range 256 {
		letter := c >= 'a' && c <= 'z'
		digit := c >= '0' && c <= '9'
		check(t, impl.IsValidNetwork, in(impl.Network{Nodes: []string{string([]byte{byte(c)}), "b0"}}), out(letter))
		check(t, impl.IsValidNetwork, in(impl.Network{Nodes: []string{"x" + string([]byte{byte(c)}), "b"}}), out(letter || digit))
	}
}

func TestIsValidNetworkLimits(t *testing.T) {
	names := strings.Fields("a b c d e f g h i j")
	for count := range len(names) + 1 {
		check(t, impl.IsValidNetwork, in(impl.Network{Nodes: names[:count]}), out(count >= 2 && count <= impl.MaxNodes))
	}
	for count := range impl.MaxFibers + 3 {
		n := impl.Network{Nodes: []string{"a", "b"}}
		for range count {
			n.Fibers = append(n.Fibers, impl.Fiber{A: 0, B: 1, Length: 9, Risk: 4})
		}
		check(t, impl.IsValidNetwork, in(n), out(count <= impl.MaxFibers))
	}
	for length := -1; length <= impl.MaxLength+1; length++ {
		n := network("a b", [4]int{0, 1, length})
		if want := length >= 1 && length <= impl.MaxLength; impl.IsValidNetwork(n) != want {
			t.Errorf("a fiber of the length %d is valid: %v", length, !want)
		}
	}
	for risk := -2; risk <= impl.MaxRisk+2; risk++ {
		check(t, impl.IsValidNetwork, in(network("a b", [4]int{0, 1, 1, risk})), out(risk >= 0 && risk <= impl.MaxRisk))
	}
	for a := -1; a <= 3; a++ {
		for b := -1; b <= 3; b++ {
			check(t, impl.IsValidNetwork, in(network("a b c", [4]int{a, b, 1})), out(a >= 0 && a < b && b <= 2))
		}
	}
}

// TestIsValidNetworkOrder tries all pairs of fibers that differ by little.
func TestIsValidNetworkOrder(t *testing.T) {
	var fibers [][4]int
	for k := range 16 {
		fibers = append(fibers, [4]int{k & 1, 2 + k>>1&1, 5 + k>>2&1, 7 + k>>3&1})
	}
	for _, f := range fibers {
		for _, g := range fibers {
			n := network("a b c d", f, g)
			check(t, impl.IsValidNetwork, in(n), out(slices.Compare(f[:], g[:]) <= 0))
			n = network("a b c d", [4]int{0, 1, 1}, f, g, [4]int{2, 3, 1})
			check(t, impl.IsValidNetwork, in(n), out(slices.Compare(f[:], g[:]) <= 0))
		}
	}
}

func TestNodeNumber(t *testing.T) {
	n := square()
	for i, name := range n.Nodes {
		check(t, impl.NodeNumber, in(n, name), out(i, true))
	}
	check(t, impl.NodeNumber, in(largest(), "abcdefgh"), out(7, true))
	for _, name := range append(badNames(), "e", "aa", "abcdefgh") {
		checkFails(t, impl.NodeNumber, n, name)
	}
	// The names of an invalid network are not numbered.
	checkFails(t, impl.NodeNumber, network("a b", [4]int{1, 0, 1}), "a")
	checkFails(t, impl.NodeNumber, impl.Network{Nodes: []string{"a"}}, "a")
	checkFails(t, impl.NodeNumber, impl.Network{Nodes: []string{"a", ""}}, "")
}

func TestOtherEnd(t *testing.T) {
	for _, n := range sampleNetworks() {
		for i, f := range n.Fibers {
			check(t, impl.OtherEnd, in(n, i, f.A), out(f.B, true))
			check(t, impl.OtherEnd, in(n, i, f.B), out(f.A, true))
			for node := -1; node <= len(n.Nodes); node++ {
				if node != f.A && node != f.B {
					checkFails(t, impl.OtherEnd, n, i, node)
				}
			}
		}
		for _, i := range []int{-1, len(n.Fibers), minInt, maxInt} {
			checkFails(t, impl.OtherEnd, n, i, 0)
		}
	}
	checkFails(t, impl.OtherEnd, network("a b c", [4]int{1, 2, 1}, [4]int{0, 1, 1}), 0, 1)
}

func TestFibersAt(t *testing.T) {
	check(t, impl.FibersAt, in(square(), 0), out([]int{0, 1}, true))
	check(t, impl.FibersAt, in(square(), 3), out([]int{1, 3}, true))
	check(t, impl.FibersAt, in(parallels(), 1), out([]int{0, 1, 2, 3, 4, 5}, true))
	check(t, impl.FibersAt, in(parallels(), 2), out([]int{3, 4, 5}, true))
	check(t, impl.FibersAt, in(parallels(), 3), out([]int{}, true))
	check(t, impl.FibersAt, in(network("a b"), 1), out([]int{}, true))
	for _, node := range []int{-1, 4, minInt, maxInt} {
		checkFails(t, impl.FibersAt, square(), node)
	}
	checkFails(t, impl.FibersAt, network("a a", [4]int{0, 1, 1}), 0)
}

func TestRiskGroups(t *testing.T) {
	check(t, impl.RiskGroups, in(network("a b")), out([][]int{}, true))
	check(t, impl.RiskGroups, in(square()), out([][]int{{1, 3}, {0}, {2}}, true))
	check(t, impl.RiskGroups, in(parallels()), out([][]int{{3, 4}, {2}, {0}, {1}, {5}}, true))
	check(t, impl.RiskGroups, in(largest()), out([][]int{{2, 5}, {7}, {0, 1, 9}, {3}, {4}, {6}, {8}, {10}, {11}, {12}, {13}}, true))
	check(t, impl.RiskGroups, in(network("a b", [4]int{0, 1, 1, 9}, [4]int{0, 1, 2, 1}, [4]int{0, 1, 3})), out([][]int{{1}, {0}, {2}}, true))
	for _, n := range brokenNetworks() {
		checkFails(t, impl.RiskGroups, n)
	}
}

func TestFailingWith(t *testing.T) {
	want := [][]int{{0}, {1, 3}, {2}, {1, 3}}
	for fiber, group := range want {
		check(t, impl.FailingWith, in(square(), fiber), out(group, true))
	}
	// Fibers with Risk 0 do not fail together, even if they are equal.
	check(t, impl.FailingWith, in(parallels(), 1), out([]int{1}, true))
	check(t, impl.FailingWith, in(parallels(), 3), out([]int{3, 4}, true))
	for _, fiber := range []int{-1, 4, minInt, maxInt} {
		checkFails(t, impl.FailingWith, square(), fiber)
	}
	checkFails(t, impl.FailingWith, network("a b", [4]int{0, 1, 0}), 0)
}

func TestRemoveFibers(t *testing.T) {
	n := square()
	for gone := range 1 << len(n.Fibers) {
		var list, old []int
		m := impl.Network{Nodes: n.Nodes}
		for i, f := range n.Fibers {
			if gone>>i&1 == 1 {
				list = append(list, i)
				continue
			}
			old = append(old, i)
			m.Fibers = append(m.Fibers, f)
		}
		check(t, impl.RemoveFibers, in(n, list), out(m, old, true))
	}
	check(t, impl.RemoveFibers, in(network("a b"), []int{}), out(network("a b"), []int{}, true))
	for _, gone := range [][]int{{4}, {-1}, {0, 0}, {1, 0}, {0, 1, 2, 3, 4}, {0, 2, 1}, {2, 2}, {minInt}, {maxInt}, {-1, 0}, {3, 4}, {0, 1, 1}} {
		checkFails(t, impl.RemoveFibers, n, gone)
	}
	checkFails(t, impl.RemoveFibers, network("a b"), []int{0})
	for _, n := range brokenNetworks() {
		checkFails(t, impl.RemoveFibers, n, []int{})
	}
}

func TestAddFiber(t *testing.T) {
	n := square()
	check(t, impl.AddFiber, in(n, impl.Fiber{A: 0, B: 2, Length: 50}), out(network("a b c d", [4]int{0, 1, 100}, [4]int{0, 2, 50},
		[4]int{0, 3, 300, 1}, [4]int{1, 2, 100}, [4]int{2, 3, 100, 1}), 1, true))
	check(t, impl.AddFiber, in(network("a b"), impl.Fiber{A: 0, B: 1, Length: 5000, Risk: 9}), out(network("a b", [4]int{0, 1, 5000, 9}), 0, true))
	// A fiber is placed behind the equal ones.
	indexes := map[impl.Fiber]int{
		{A: 0, B: 1, Length: 100}: 1, {A: 0, B: 1, Length: 99}: 0, {A: 0, B: 1, Length: 100, Risk: 1}: 1, {A: 0, B: 3, Length: 300}: 1,
		{A: 0, B: 3, Length: 300, Risk: 1}: 2, {A: 1, B: 2, Length: 100}: 3, {A: 2, B: 3, Length: 100, Risk: 1}: 4,
		{A: 2, B: 3, Length: 100}: 3, {A: 2, B: 3, Length: 5000, Risk: 9}: 4, {A: 1, B: 3, Length: 1}: 3,
	}
	for f, at := range indexes {
		fibers := slices.Insert(slices.Clone(n.Fibers), at, f)
		check(t, impl.AddFiber, in(n, f), out(impl.Network{Nodes: n.Nodes, Fibers: fibers}, at, true))
	}
	check(t, impl.AddFiber, in(parallels(), impl.Fiber{A: 0, B: 1, Length: 50}), out(network("a b c d", [4]int{0, 1, 50}, [4]int{0, 1, 50},
		[4]int{0, 1, 50}, [4]int{0, 1, 50, 2}, [4]int{1, 2, 70, 1}, [4]int{1, 2, 70, 1}, [4]int{1, 2, 80}), 2, true))
}

func TestAddFiberFails(t *testing.T) {
	for _, f := range badFibers() {
		checkFails(t, impl.AddFiber, network("a b c"), impl.Fiber{A: f[0], B: f[1], Length: f[2], Risk: f[3]})
	}
	fiber := impl.Fiber{A: 0, B: 1, Length: 1}
	n, ok := network("a b"), true
	for count := 1; count <= impl.MaxFibers; count++ {
		var at int
		if n, at, ok = impl.AddFiber(n, fiber); !ok || at != count-1 || len(n.Fibers) != count {
			t.Fatalf("fiber %d is not added: %v, %v", count, n, at)
		}
	}
	checkFails(t, impl.AddFiber, n, fiber)
	// A new fiber does not repair the network.
	checkFails(t, impl.AddFiber, network("a b c", [4]int{1, 2, 1}, [4]int{0, 1, 1}), fiber)
	checkFails(t, impl.AddFiber, impl.Network{}, fiber)
}

func TestTotalLength(t *testing.T) {
	check(t, impl.TotalLength, in(square()), out(600, true))
	check(t, impl.TotalLength, in(network("a b")), out(0, true))
	check(t, impl.TotalLength, in(parallels()), out(370, true))
	check(t, impl.TotalLength, in(largest()), out(10*5000+19, true))
	for _, n := range brokenNetworks() {
		checkFails(t, impl.TotalLength, n)
	}
}
