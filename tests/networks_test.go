package tests

import (
	"fmt"
	"math/rand/v2"
	"slices"
	"strings"

	"loop.example/g00897/impl"
)

// The networks of this file are those with which the tests of all chapters call functions.

const (
	minInt = -1 << 63
	maxInt = 1<<63 - 1
)

// network builds a network from names separated by spaces and fibers {A, B, Length, Risk}.
func network(names string, fibers ...[4]int) impl.Network {
	n := impl.Network{Nodes: strings.Fields(names)}
	for _, f := range fibers {
		n.Fibers = append(n.Fibers, impl.Fiber{A: f[0], B: f[1], Length: f[2], Risk: f[3]})
	}
	return n
}

// square is a square a-b-c-d in which the fibers a-d and c-d fail together.
func square() impl.Network {
	return network("a b c d", [4]int{0, 1, 100}, [4]int{0, 3, 300, 1}, [4]int{1, 2, 100}, [4]int{2, 3, 100, 1})
}

// parallels has equal parallel fibers, other parallel fibers, and a node of its own.
func parallels() impl.Network {
	return network("a b c d", [4]int{0, 1, 50}, [4]int{0, 1, 50}, [4]int{0, 1, 50, 2}, [4]int{1, 2, 70, 1},
		[4]int{1, 2, 70, 1}, [4]int{1, 2, 80})
}

// largest has as many nodes and fibers as possible: a ring, two parallel fibers and four chords.
func largest() impl.Network {
	return network("n0 n1 n2 n3 n4 n5 n6 abcdefgh", [4]int{0, 1, 5000, 9}, [4]int{0, 1, 5000, 9}, [4]int{0, 4, 1, 1},
		[4]int{0, 7, 5000}, [4]int{1, 2, 5000}, [4]int{1, 5, 7, 1}, [4]int{2, 3, 5000}, [4]int{2, 6, 9, 2}, [4]int{3, 4, 5000},
		[4]int{3, 4, 5000, 9}, [4]int{3, 7, 2}, [4]int{4, 5, 5000}, [4]int{5, 6, 5000}, [4]int{6, 7, 5000})
}

// trap has a shortest route from a to d, through b and c, that every other route meets.
func trap() impl.Network {
	return network("a b c d", [4]int{0, 1, 100}, [4]int{0, 2, 400}, [4]int{1, 2, 100}, [4]int{1, 3, 400}, [4]int{2, 3, 100})
}

// chain connects nodes in a row by parallel fibers, as many between each and the next as counts
// tells.
func chain(counts ...int) impl.Network {
	n := network("a b c d e f g h")
	for hop, count := range counts {
		for k := range count {
			n.Fibers = append(n.Fibers, impl.Fiber{A: hop, B: hop + 1, Length: 10 + k/2, Risk: k})
		}
	}
	return n
}

// sampleNetworks returns valid networks: small and large ones, connected or not, with parallel
// fibers and risk groups, and some that follow a fixed sequence of numbers.
func sampleNetworks() []impl.Network {
	list := []impl.Network{
		network("a b"),
		network("a b", [4]int{0, 1, 7, 3}),
		network("x1 a", [4]int{0, 1, 5, 0}, [4]int{0, 1, 5, 0}),
		network("a b c", [4]int{0, 1, 1}, [4]int{1, 2, 1}),
		network("a b c", [4]int{0, 1, 4, 1}, [4]int{0, 2, 4, 1}, [4]int{1, 2, 4, 1}),
		network("a b c d e", [4]int{0, 1, 4, 1}, [4]int{2, 3, 4, 1}, [4]int{2, 4, 4, 2}, [4]int{3, 4, 4, 2}),
		square(), parallels(), largest(), trap(), chain(2, 3, 4),
	}
	return append(list, randomNetworks(24, 8)...)
}

// randomNetworks returns count different valid networks with at most so many nodes. The numbers
// follow a fixed sequence, so that all runs see the same networks.
func randomNetworks(count int, nodes int) []impl.Network {
	var list []impl.Network
	seen := map[string]bool{}
	next := numbers(uint64(nodes))
	for len(list) < count {
		var n impl.Network
		for i := range 2 + next(nodes-1) {
			n.Nodes = append(n.Nodes, "n"+string(rune('a'+i)))
		}
		lengths, risks := []int{2, 10, impl.MaxLength}[next(3)], 1+next(4)
		for range next(impl.MaxFibers + 1) {
			a, b := next(len(n.Nodes)), next(len(n.Nodes)-1)
			if b >= a {
				b++
			}
			n.Fibers = append(n.Fibers, impl.Fiber{A: min(a, b), B: max(a, b), Length: 1 + next(lengths), Risk: next(risks)})
		}
		slices.SortFunc(n.Fibers, expectedOrder)
		if key := fmt.Sprint(n); !seen[key] {
			seen[key] = true
			list = append(list, n)
		}
	}
	return list
}

// numbers returns a function whose calls give a fixed sequence of numbers in 0..limit-1.
func numbers(seed uint64) func(limit int) int {
	generator := rand.New(rand.NewPCG(seed, seed))
	return generator.IntN
}

// expectedOrder compares fibers by a number with one digit of a large base for each of A, B,
// Length and Risk.
func expectedOrder(f impl.Fiber, g impl.Fiber) int {
	weight := func(f impl.Fiber) int { return ((f.A*100+f.B)*10000+f.Length)*100 + f.Risk }
	return weight(f) - weight(g)
}

// brokenNetworks returns networks each of which breaks one rule.
func brokenNetworks() []impl.Network {
	many := network("a b c d e f g h i", [4]int{0, 1, 1})
	full := impl.Network{Nodes: []string{"a", "b"}, Fibers: make([]impl.Fiber, impl.MaxFibers+1)}
	for i := range full.Fibers {
		full.Fibers[i] = impl.Fiber{A: 0, B: 1, Length: 1}
	}
	list := []impl.Network{{}, {Nodes: []string{"a"}}, {Fibers: []impl.Fiber{{A: 0, B: 1, Length: 1}}}, many, full}
	for _, name := range badNames() {
		list = append(list, impl.Network{Nodes: []string{"a", name}}, impl.Network{Nodes: []string{name, "b", "c"}})
	}
	for _, f := range badFibers() {
		list = append(list, network("a b c", f), network("a b c", [4]int{0, 1, 1}, f))
	}
	return append(list,
		network("a b a"), network("a a"), network("b a c a", [4]int{0, 1, 1}),
		network("a b c", [4]int{1, 2, 1}, [4]int{0, 1, 1}),
		network("a b c", [4]int{0, 2, 1}, [4]int{0, 1, 1}),
		network("a b c", [4]int{0, 1, 2}, [4]int{0, 1, 1}),
		network("a b c", [4]int{0, 1, 1, 2}, [4]int{0, 1, 1, 1}),
		network("a b c", [4]int{0, 1, 1, 1}, [4]int{0, 1, 1, 0}, [4]int{1, 2, 1}),
		network("a b c", [4]int{0, 1, 1}, [4]int{1, 2, 9, 9}, [4]int{0, 2, 10, 9}),
	)
}

func badNames() []string {
	return []string{"", "abcdefghi", "a12345678", "1a", "9", "A", "aB", "a_", "a-b", "a b", " a", "a ", "a.", "a\n", "\x00", "a\x00",
		"`", "{", "a`", "a{", "a/", "a:", "é", "aé", "\xff", "a\xff", "_", strings.Repeat("a", 5000)}
}

// badFibers returns fibers that no network with three nodes has.
func badFibers() [][4]int {
	return [][4]int{{0, 3, 1, 0}, {2, 3, 1, 0}, {-1, 1, 1, 0}, {1, 1, 1, 0}, {2, 1, 1, 0}, {0, -1, 1, 0}, {3, 4, 1, 0}, {2, 2, 1, 0},
		{0, 1, 0, 0}, {0, 1, -1, 0}, {0, 1, 5001, 0}, {0, 1, maxInt, 0}, {0, 1, minInt, 0}, {1, 2, 1, 10}, {1, 2, 1, -1}, {1, 2, 1, maxInt},
		{1, 2, 1, minInt}, {minInt, 2, 1, 0}, {1, maxInt, 1, 0}, {maxInt, minInt, 1, 0}}
}
