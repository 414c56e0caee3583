package tests

import (
	"strings"
	"testing"

	"loop.example/g00897/impl"
)

// The tests of this file compare every function of chapter 3 with what the document states:
// ordinary inputs, the edge cases that the chapter names, and invalid inputs.

func TestFormatAndParseNetwork(t *testing.T) {
	texts := map[string]impl.Network{
		"nodes a b\n":                        network("a b"),
		"nodes a b\nfiber a b 100 risk 2\n":  network("a b", [4]int{0, 1, 100, 2}),
		"nodes a b\nfiber a b 5000 risk 9\n": network("a b", [4]int{0, 1, 5000, 9}),
		"nodes b a\nfiber b a 1\n":           network("b a", [4]int{0, 1, 1}),
		"nodes a b c d\nfiber a b 100\nfiber a d 300 risk 1\nfiber b c 100\nfiber c d 100 risk 1\n":                                          square(),
		"nodes a b c d\nfiber a b 50\nfiber a b 50\nfiber a b 50 risk 2\nfiber b c 70 risk 1\nfiber b c 70 risk 1\nfiber b c 80\n":           parallels(),
		"nodes nodes fiber risk light\nfiber nodes fiber 20\nfiber nodes light 10 risk 7\nfiber fiber risk 30\nfiber fiber risk 30 risk 3\n": network("nodes fiber risk light", [4]int{0, 1, 20}, [4]int{0, 3, 10, 7}, [4]int{1, 2, 30}, [4]int{1, 2, 30, 3}),
	}
	for text, n := range texts {
		check(t, impl.FormatNetwork, in(n), out(text, true))
		check(t, impl.ParseNetwork, in(text), out(n, true))
		check(t, impl.FormatPlan, in(plan(n)), out(text, true))
		check(t, impl.ParsePlan, in(text), out(plan(n), true))
	}
	for _, n := range brokenNetworks() {
		checkFails(t, impl.FormatNetwork, n)
		checkFails(t, impl.FormatPlan, plan(n))
	}
}

// brokenNetworkTexts returns texts that are those of no network, and do not begin like one of a
// plan.
func brokenNetworkTexts() []string {
	return []string{
		// Missing words, and words too many.
		"", "\n", "nodes", "nodes\n", "nodes \n", "nodes a\n", "a b\n", "fiber a b 100\n", "node a b\n", "Nodes a b\n", "nodesa b\n",
		"nodes a b\nfiber\n", "nodes a b\nfiber a\n", "nodes a b\nfiber a b\n", "nodes a b\nfiber a b \n", "nodes a b\na b 10\n",
		"nodes a b\nfiber a b 10 risk\n", "nodes a b\nfiber a b 10 risk \n", "nodes a b\nfiber a b 10 2\n", "nodes a b\nfiber a b risk 2\n",
		"nodes a b\nfiber a b 10 risk 2 3\n", "nodes a b\nfiber a b 10 risk 2 risk 2\n", "nodes a b\nfiber a b 10 20\n", "nodes a b\nfiber a b 10 length 2\n",
		"nodes a b\nfiber a b 10 risk 2 \n", "nodes a b\nfiber a b 10 20 2\n", "nodes a b\nfibers a b 10\n", "nodes a b\nfiber a b 10 RISK 2\n",
		"nodes a b\nnodes a b\n", "nodes a b\nfiber a b 10\nnodes a b\n", "nodes a b\nlink a b 10\n",
		// Leading zeros, signs, and other numbers.
		"nodes a b\nfiber a b 010\n", "nodes a b\nfiber a b 10 risk 02\n", "nodes a b\nfiber a b +10\n", "nodes a b\nfiber a b 1e1\n",
		"nodes a b\nfiber a b 10 risk +2\n", "nodes a b\nfiber a b 10 risk x\n", "nodes a b\nfiber a b x\n", "nodes a b\nfiber a b 10.0\n",
		"nodes a b\nfiber 0 1 10\n", "nodes a b\nfiber a b 18446744073709551626\n", "nodes a b\nfiber a b 10 risk 18446744073709551617\n",
		// Spaces and newlines.
		"nodes  a b\n", "nodes a  b\n", "nodes a b \n", " nodes a b\n", "nodes\ta b\n", "nodes a\tb\n", "nodes a b\nfiber  a b 10\n", "nodes a b\nfiber a  b 10\n",
		"nodes a b\nfiber a b  10\n", "nodes a b\nfiber a b 10 \n", "nodes a b\n fiber a b 10\n", "nodes a b\nfiber a b 10  risk 2\n", "nodes a b\nfiber a b 10 risk  2\n",
		"nodes a b", "nodes a b\nfiber a b 10", "nodes a b\nfiber a b 10 risk 2", "nodes a b\n\n", "nodes a b\n\nfiber a b 10\n", "\nnodes a b\n", "nodes a b\nfiber a b 10\n\n",
		"nodes a b\r\n", "nodes a b\nfiber a b 10\r\n", "nodes a b\rfiber a b 10\n", "nodes a b fiber a b 10\n", "nodes a b\n ", "nodes a b\nx", "nodes a b\n\x00",
		// Values that are not valid.
		"nodes a a\n", "nodes a 1b\n", "nodes a B\n", "nodes a abcdefghi\n", "nodes a b c d e f g h i\n", "nodes a b\nfiber b a 10\n", "nodes a b\nfiber a a 10\n",
		"nodes a b\nfiber a c 10\n", "nodes a b\nfiber c b 10\n", "nodes a b\nfiber x y 10\n", "nodes a b\nfiber a b 0\n", "nodes a b\nfiber a b -1\n", "nodes a b\nfiber a b 5001\n",
		"nodes a b\nfiber a b 10 risk 0\n", "nodes a b\nfiber a b 10 risk 10\n", "nodes a b\nfiber a b 10 risk -1\n", "nodes a b\nfiber a b 20\nfiber a b 10\n",
		"nodes a b\nfiber a b 10 risk 1\nfiber a b 10\n", "nodes a b c\nfiber b c 10\nfiber a b 10\n", "nodes a b\n" + strings.Repeat("fiber a b 10\n", impl.MaxFibers+1),
	}
}

func TestParseNetworkFails(t *testing.T) {
	for _, text := range brokenNetworkTexts() {
		checkFails(t, impl.ParseNetwork, text)
		checkFails(t, impl.ParsePlan, text)
	}
	// A network ends where the lights of a plan begin.
	checkFails(t, impl.ParseNetwork, "nodes a b\nfiber a b 10\nlight 1 a.0.b 0+1\n")
	checkFails(t, impl.ParseNetwork, "nodes a b\nlight\n")
}

// TestParsingLongTexts extends valid texts to exactly MaxString bytes and more.
func TestParsingLongTexts(t *testing.T) {
	n := network("a b", [4]int{0, 1, 10})
	for _, size := range []int{impl.MaxString - 1, impl.MaxString, impl.MaxString + 1, 1000000} {
		for _, filler := range []string{"\n", " ", "0", "x", "fiber a b 10\n", "light 1 a.0.b 0+1\n", ".0.b", "+1"} {
			for _, text := range []string{"nodes a b\nfiber a b 10\n", "nodes a b\nfiber a b 10\nlight 1 a.0.b 0+1\n", "a.0.b", "0+1", "nodes a b\nfiber a b "} {
				long := (text + strings.Repeat(filler, size/len(filler)+1))[:size]
				checkFails(t, impl.ParseNetwork, long)
				checkFails(t, impl.ParsePlan, long)
				checkFails(t, impl.ParseRoute, n, long)
				checkFails(t, impl.ParseBlock, long)
			}
		}
		checkFails(t, impl.ParseBlock, strings.Repeat("0", size-2)+"+1")
	}
}

func TestFormatAndParseRoute(t *testing.T) {
	n := square()
	texts := map[string]impl.Route{
		"a.0.b": route(0, 0), "b.0.a": route(1, 0), "a.1.d": route(0, 1), "b.0.a.1.d": route(1, 0, 1), "a.0.b.2.c": route(0, 0, 2),
		"a.0.b.2.c.3.d": route(0, 0, 2, 3), "d.3.c.2.b.0.a": route(3, 3, 2, 0), "c.3.d.1.a.0.b": route(2, 3, 1, 0),
	}
	for text, r := range texts {
		check(t, impl.FormatRoute, in(n, r), out(text, true))
		check(t, impl.ParseRoute, in(n, text), out(r, true))
	}
	check(t, impl.FormatRoute, in(largest(), route(7, 10, 9)), out("abcdefgh.10.n3.9.n4", true))
	check(t, impl.ParseRoute, in(largest(), "abcdefgh.10.n3.9.n4"), out(route(7, 10, 9), true))
	for _, r := range badRoutes() {
		checkFails(t, impl.FormatRoute, n, r)
	}
	for _, broken := range brokenNetworks() {
		checkFails(t, impl.FormatRoute, broken, route(0, 0))
		checkFails(t, impl.ParseRoute, broken, "a.0.b")
	}
}

func TestParseRouteFails(t *testing.T) {
	for _, text := range []string{
		"", ".", "..", "a", "a.", "a.0", "a.0.", ".0.b", "0.b", "a.0.b.", ".a.0.b", "a.0.b.2", "a.0.b.2.", "a..b", "a.b", "a.0.b.c", "a.0.0.b",
		"a.00.b", "a.+0.b", "a.-0.b", "a.01.d", "a.0 .b", "a. 0.b", " a.0.b", "a.0.b ", "a.0.b\n", "a 0 b", "a,0,b", "A.0.B", "a.0.b.02.c",
		"a.0.a", "a.0.c", "b.0.b", "a.0.d", "b.0.c", "c.0.b", "a.0.b.0.a", "a.0.b.1.d", "a.0.b.2.b", "a.0.b.2.c.3.d.1.a", "a.0.b.3.c",
		"a.4.b", "a.9.b", "a.-1.b", "a.x.b", "x.0.b", "a.0.x", "a.0.abcdefghi", "a.0.b.2.x", "a.18446744073709551616.b", "0.0.1", "a.0.b.0.b",
	} {
		checkFails(t, impl.ParseRoute, square(), text)
	}
}

func TestFormatAndParseBlock(t *testing.T) {
	for text, b := range map[string]impl.Block{"0+1": {First: 0, Count: 1}, "0+24": {First: 0, Count: 24}, "23+1": {First: 23, Count: 1},
		"3+2": {First: 3, Count: 2}, "10+10": {First: 10, Count: 10}, "14+10": {First: 14, Count: 10}} {
		check(t, impl.FormatBlock, in(b), out(text, true))
		check(t, impl.ParseBlock, in(text), out(b, true))
	}
	for _, b := range badBlocks() {
		checkFails(t, impl.FormatBlock, b)
	}
	for _, text := range []string{"", "+", "3", "3+", "+3", "3+0", "0+0", "0+25", "23+2", "24+1", "24+0", "-1+2", "-0+2", "03+1", "3+01", "3++1", "3+1+", "3+1+1", "+3+1",
		"3 +1", "3+ 1", " 3+1", "3+1 ", "3+1\n", "3-1", "3,1", "3+-1", "3", "x+1", "3+x", "0x3+1", "18446744073709551619+1", "3+18446744073709551617", "\xff+1"} {
		checkFails(t, impl.ParseBlock, text)
	}
}

func TestFormatAndParsePlan(t *testing.T) {
	n := "nodes a b c d\nfiber a b 100\nfiber a d 300 risk 1\nfiber b c 100\nfiber c d 100 risk 1\n"
	texts := map[string]impl.Plan{
		n + "light 1 a.0.b.2.c 0+3\nlight 2 b.2.c 3+2\n":      samplePlans()[3],
		n + "light 1 a.0.b 0+24\nlight 999 c.3.d 0+24\n":      samplePlans()[5],
		"nodes a b\nfiber a b 7 risk 3\nlight 1 b.0.a 0+24\n": samplePlans()[1],
	}
	for text, p := range texts {
		check(t, impl.FormatPlan, in(p), out(text, true))
		check(t, impl.ParsePlan, in(text), out(p, true))
	}
	for _, p := range brokenPlans() {
		checkFails(t, impl.FormatPlan, p)
	}
}

func TestParsePlanFails(t *testing.T) {
	n := "nodes a b c d\nfiber a b 100\nfiber a d 300 risk 1\nfiber b c 100\nfiber c d 100 risk 1\n"
	for _, lights := range []string{
		// Missing words, and words too many.
		"light\n", "light \n", "light 1\n", "light 1 a.0.b\n", "light a.0.b 0+1\n", "light 1 0+1\n", "1 a.0.b 0+1\n", "light 1 a.0.b 0+1 2\n", "light 1 a.0.b 0+1 \n",
		"light 1 a.0.b 0+1 0+1\n", "lights 1 a.0.b 0+1\n", "light 1 a.0.b 0 1\n", "x 1 a.0.b 0+1\n", "light 1 0+1 a.0.b\n", "light 1  0+1\n",
		// Leading zeros, spaces and newlines.
		"light 01 a.0.b 0+1\n", "light +1 a.0.b 0+1\n", "light 1 a.00.b 0+1\n", "light 1 a.0.b 00+1\n", "light 1 a.0.b 0+01\n", "light  1 a.0.b 0+1\n", "light 1  a.0.b 0+1\n",
		"light 1 a.0.b  0+1\n", " light 1 a.0.b 0+1\n", "light 1 a.0.b 0+1", "light 1 a.0.b 0+1\n\n", "\nlight 1 a.0.b 0+1\n", "light 1 a.0.b 0+1\n\nlight 2 a.0.b 1+1\n",
		"light 1 a.0.b 0+1\r\n", "light\t1 a.0.b 0+1\n", "light 1 a.0.b 0+1 light 2 a.0.b 1+1\n",
		// Lines in another order.
		"light 1 a.0.b 0+1\nfiber c d 200\n", "light 1 a.0.b 0+1\nnodes a b\n", "light 2 a.0.b 0+1\nlight 1 a.0.b 1+1\n", "light 1 a.0.b 0+1\nlight 1 a.0.b 1+1\n",
		// Values that are not valid.
		"light 0 a.0.b 0+1\n", "light -1 a.0.b 0+1\n", "light 1000 a.0.b 0+1\n", "light x a.0.b 0+1\n", "light 1 a.0.c 0+1\n", "light 1 a 0+1\n", "light 1 a.4.b 0+1\n",
		"light 1 a.0.b 0+0\n", "light 1 a.0.b 24+1\n", "light 1 a.0.b 0+25\n", "light 1 a.0.b 0+2\nlight 2 a.0.b 1+2\n", "light 1 a.0.b.2.c 0+2\nlight 2 c.2.b 1+1\n",
		"light 18446744073709551617 a.0.b 0+1\n",
	} {
		checkFails(t, impl.ParsePlan, n+lights)
	}
	checkFails(t, impl.ParsePlan, "light 1 a.0.b 0+1\n")
	checkFails(t, impl.ParsePlan, "nodes a b\nlight 1 a.0.b 0+1\n")
	checkFails(t, impl.ParsePlan, "light 1 a.0.b 0+1\nnodes a b\nfiber a b 10\n")
	many := ""
	for i := range impl.MaxLights + 1 {
		id, _ := impl.FormatInt(i + 1)
		slot, _ := impl.FormatInt(i)
		many += "light " + id + " a.0.b " + slot + "+1\n"
	}
	checkFails(t, impl.ParsePlan, n+many)
}
