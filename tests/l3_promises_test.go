package tests

import (
	"reflect"
	"regexp"
	"slices"
	"strconv"
	"strings"
	"testing"

	"loop.example/g00897/impl"
)

// The tests of this file would fail if promise 3, or promise 29 for a function of chapter 3, were
// broken.

func TestPromise3NetworksAndRoutesAreRecovered(t *testing.T) {
	for _, n := range append(sampleNetworks(), randomNetworks(100, 5)...) {
		text, ok := impl.FormatNetwork(n)
		if !ok || len(text) > impl.MaxString || !strings.HasSuffix(text, "\n") {
			t.Fatalf("%v has the text %q, %v", n, text, ok)
		}
		check(t, impl.ParseNetwork, in(text), out(n, true))
		for i, r := range expectedRoutes(n) {
			if i >= 100 {
				break
			}
			text, ok := impl.FormatRoute(n, r)
			back, fine := impl.ParseRoute(n, text)
			if !ok || !fine || !reflect.DeepEqual(back, r) || strings.Count(text, ".") != 2*len(r.Fibers) {
				t.Errorf("%v of %v has the text %q, %v, which is parsed to %v, %v", r, n, text, ok, back, fine)
			}
		}
	}
}

func TestPromise3BlocksAreRecovered(t *testing.T) {
	for first := -1; first <= impl.MaxSlots+1; first++ {
		for count := -1; count <= impl.MaxSlots+1; count++ {
			b := impl.Block{First: first, Count: count}
			text := strconv.Itoa(first) + "+" + strconv.Itoa(count)
			if first < 0 || count < 1 || first+count > impl.MaxSlots {
				checkFails(t, impl.FormatBlock, b)
				checkFails(t, impl.ParseBlock, text)
				continue
			}
			check(t, impl.FormatBlock, in(b), out(text, true))
			check(t, impl.ParseBlock, in(text), out(b, true))
		}
	}
}

func TestPromise3PlansAreRecovered(t *testing.T) {
	for _, p := range samplePlans() {
		text, ok := impl.FormatPlan(p)
		if !ok || len(text) > impl.MaxString {
			t.Errorf("%v has the text %q, %v", p, text, ok)
		}
		check(t, impl.ParsePlan, in(text), out(p, true))
	}
}

// TestPromise3NoTextIsTooLong formats a plan whose names, lengths and routes are as long as
// possible.
func TestPromise3NoTextIsTooLong(t *testing.T) {
	var n impl.Network
	for i := range impl.MaxNodes {
		n.Nodes = append(n.Nodes, "abcdefg"+strconv.Itoa(i))
	}
	for i := range impl.MaxFibers {
		n.Fibers = append(n.Fibers, impl.Fiber{A: i / 2, B: i/2 + 1, Length: impl.MaxLength, Risk: impl.MaxRisk})
	}
	p := plan(n)
	for i := range impl.MaxLights {
		p.Lights = append(p.Lights, light(impl.MaxId-impl.MaxLights+1+i, route(0, 1, 3, 5, 7, 9, 11, 13), 12+i, 1))
	}
	text, ok := impl.FormatPlan(p)
	if !ok || len(text) > impl.MaxString {
		t.Errorf("the text has %d bytes, %v", len(text), ok)
	}
	check(t, impl.ParsePlan, in(text), out(p, true))
}

// TestPromise3TextsAreParsedExactly changes, removes and inserts a byte at every place of some
// texts, and compares what is parsed with an own reading of the text.
func TestPromise3TextsAreParsedExactly(t *testing.T) {
	for _, text := range []string{
		"nodes a b\nfiber a b 12\n", "nodes a b1\nfiber a b1 1 risk 1\nlight 1 a.0.b1 0+1\n",
		"nodes a b c\nfiber a b 1\nfiber a c 20 risk 2\nlight 1 b.0.a.1.c 0+11\nlight 2 c.1.a 11+1\n",
	} {
		for at := range len(text) + 1 {
			for _, c := range " \n.+-0129abcflnr" {
				compareParsing(t, text[:at]+string(c)+text[at:])
				if at < len(text) {
					compareParsing(t, text[:at]+string(c)+text[at+1:])
				}
			}
			if at < len(text) {
				compareParsing(t, text[:at]+text[at+1:])
			}
		}
	}
}

func compareParsing(t *testing.T, text string) {
	t.Helper()
	want, ok := expectedPlan(text)
	got, fine := impl.ParsePlan(text)
	if ok != fine || !same(reflect.ValueOf(got), reflect.ValueOf(want)) {
		t.Errorf("ParsePlan(%q) = %+v, %v instead of %+v, %v", text, got, fine, want, ok)
	}
	isNetwork := ok && len(want.Lights) == 0
	if !isNetwork {
		want = impl.Plan{}
	}
	n, fine := impl.ParseNetwork(text)
	if isNetwork != fine || !same(reflect.ValueOf(n), reflect.ValueOf(want.Network)) {
		t.Errorf("ParseNetwork(%q) = %+v, %v instead of %+v, %v", text, n, fine, want.Network, isNetwork)
	}
}

// planText accepts what has the form of the text of a plan. NUM stands for a number.
var planText = regexp.MustCompile(strings.ReplaceAll(
	`^nodes( [a-z0-9]+)+\n`+
		`(fiber [a-z0-9]+ [a-z0-9]+ NUM( risk [1-9])?\n)*`+
		`(light NUM [a-z0-9]+(\.NUM\.[a-z0-9]+)+ NUM\+NUM\n)*$`, "NUM", "(0|[1-9][0-9]*)"))

// expectedPlan reads the text of a plan.
func expectedPlan(text string) (impl.Plan, bool) {
	if !planText.MatchString(text) {
		return impl.Plan{}, false
	}
	var p impl.Plan
	number := func(s string) int { n, _ := strconv.Atoi(s); return n }
	node := func(s string) int { return slices.Index(p.Network.Nodes, s) }
	for line := range strings.Lines(text) {
		words := strings.Fields(line)
		switch words[0] {
		case "nodes":
			p.Network.Nodes = words[1:]
		case "fiber":
			f := impl.Fiber{A: node(words[1]), B: node(words[2]), Length: number(words[3])}
			if len(words) == 6 {
				f.Risk = number(words[5])
			}
			p.Network.Fibers = append(p.Network.Fibers, f)
		case "light":
			first, count, _ := strings.Cut(words[3], "+")
			x := light(number(words[1]), impl.Route{}, number(first), number(count))
			steps := strings.Split(words[2], ".")
			x.Route.Start = node(steps[0])
			for i := 1; i < len(steps); i += 2 {
				x.Route.Fibers = append(x.Route.Fibers, number(steps[i]))
			}
			for i := 2; i < len(steps) && impl.IsValidNetwork(p.Network) && impl.IsValidRoute(p.Network, x.Route); i += 2 {
				if node(steps[i]) != expectedNodes(p.Network, x.Route)[i/2] {
					return impl.Plan{}, false
				}
			}
			p.Lights = append(p.Lights, x)
		}
	}
	if !impl.IsValidPlan(p) {
		return impl.Plan{}, false
	}
	return p, true
}

func TestPromise29TextFunctions(t *testing.T) {
	c := routeCandidates()
	for _, text := range brokenNetworkTexts() {
		c.add(text)
	}
	c.add("a.0.b", "a.0.b.2.c", "0+1", "nodes a b\n", "nodes a b c d\nfiber a b 100\nlight 1 a.0.b 0+1\n", strings.Repeat("light ", 2000), strings.Repeat("a.0.", 3000))
	for _, p := range append(samplePlans(), brokenPlans()...) {
		c.add(p)
	}
	for _, b := range badBlocks() {
		c.add(b, impl.Block{First: 3, Count: 4})
	}
	for _, f := range []any{impl.FormatNetwork, impl.ParseNetwork, impl.FormatRoute, impl.ParseRoute, impl.FormatBlock, impl.ParseBlock,
		impl.FormatPlan, impl.ParsePlan} {
		sweep(t, f, c, 3000, startsWithBrokenNetwork)
	}
}
