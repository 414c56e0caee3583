package tests

import (
	"slices"
	"strconv"
	"strings"
	"testing"

	"loop.example/g00897/impl"
)

// The tests of this file compare every function of chapter 28 with what the document states:
// ordinary inputs, the edge cases that the chapter names, and invalid inputs.

// console builds a console with two formats and an empty log.
func console(p impl.Plan) impl.Console {
	return impl.Console{Plan: p, Formats: formats(1000, 10, 300, 20)}
}

// routeText returns the text of a valid route.
func routeText(n impl.Network, r impl.Route) string {
	var words []string
	for i, node := range expectedNodes(n, r) {
		words = append(words, n.Nodes[node])
		if i < len(r.Fibers) {
			words = append(words, strconv.Itoa(r.Fibers[i]))
		}
	}
	return strings.Join(words, ".")
}

func blockText(b impl.Block) string { return strconv.Itoa(b.First) + "+" + strconv.Itoa(b.Count) }

// numbersText joins numbers, or returns a dash if there are none.
func numbersText(list []int) string {
	var words []string
	for _, x := range list {
		words = append(words, strconv.Itoa(x))
	}
	if len(words) == 0 {
		return "-"
	}
	return strings.Join(words, " ")
}

// wordKinds has, for every command, a letter for the kind of each of its arguments: a node, a number,
// a route and a block.
var wordKinds = map[string]string{"serve": "AAN", "add": "NRB", "drop": "N", "move": "NB", "defrag": "", "route": "AA", "show": "N", "use": "", "height": "", "lights": ""}

// The arguments of a command: its nodes and numbers in order, its route and its block.
type commandWords struct {
	numbers []int
	route   impl.Route
	block   impl.Block
}

// expectedWords reads the arguments of a command. It fails if they are not exactly those of their
// kinds.
func expectedWords(n impl.Network, words []string, kinds string) (commandWords, bool) {
	var c commandWords
	if len(words) != len(kinds) {
		return c, false
	}
	for i, word := range words {
		found := false
		switch x, err := strconv.Atoi(word); {
		case kinds[i] == 'A':
			c.numbers = append(c.numbers, slices.Index(n.Nodes, word))
			found = slices.Contains(n.Nodes, word)
		case kinds[i] == 'N':
			c.numbers = append(c.numbers, x)
			found = err == nil && strconv.Itoa(x) == word && x >= -999999 && x <= 999999
		case kinds[i] == 'R':
			for _, r := range expectedRoutes(n) {
				if routeText(n, r) == word {
					c.route, found = r, true
				}
			}
		default:
			for first := range impl.MaxSlots {
				for count := 1; first+count <= impl.MaxSlots; count++ {
					if b := block(first, count); blockText(b) == word {
						c.block, found = b, true
					}
				}
			}
		}
		if !found {
			return c, false
		}
	}
	return c, true
}

// expectedCommand executes a command in a valid plan.
func expectedCommand(p impl.Plan, list []impl.Format, line string) (impl.Plan, string) {
	name, _, _ := strings.Cut(line, " ")
	kinds, known := wordKinds[name]
	c, ok := expectedWords(p.Network, strings.Split(line, " ")[1:], kinds)
	if !known || !ok {
		return p, "?"
	}
	var old impl.Light
	exists := false
	if kinds != "" && kinds[0] == 'N' {
		old, exists = lightOf(p.Lights, c.numbers[0])
	}
	apply := func(a impl.Action) (impl.Plan, string) {
		if q, ok := expectedApply(p, a); ok {
			return q, "ok"
		}
		return p, "?"
	}
	switch name {
	case "serve":
		return expectedServing(p, list, demand(c.numbers[0], c.numbers[1], c.numbers[2]))
	case "add":
		return apply(add(impl.Light{Id: c.numbers[0], Route: c.route, Block: c.block}))
	case "drop":
		return apply(remove(old))
	case "move":
		return apply(move(impl.Light{Id: c.numbers[0], Route: old.Route, Block: c.block}))
	case "defrag":
		q, ids := expectedDefrag(p, true, 60)
		return q, numbersText(ids)
	case "route":
		if c.numbers[0] == c.numbers[1] || len(expectedAll(p.Network, c.numbers[0], c.numbers[1])) == 0 {
			return p, "?"
		}
		return p, routeText(p.Network, expectedAll(p.Network, c.numbers[0], c.numbers[1])[0])
	case "show":
		if !exists {
			return p, "?"
		}
		return p, routeText(p.Network, old.Route) + " " + blockText(old.Block)
	case "use":
		slots := map[int]bool{}
		for _, x := range p.Lights {
			for _, s := range slotsOf(x) {
				slots[s[1]] = true
			}
		}
		return p, numbersText([]int{slotsUsed(p), len(slots)})
	case "height":
		return p, strconv.Itoa(expectedHeight(p))
	}
	return p, numbersText(idsOf(p))
}

// expectedServing executes the command serve.
func expectedServing(p impl.Plan, list []impl.Format, d impl.Demand) (impl.Plan, string) {
	if d.From == d.To || d.Rate < 1 || d.Rate > impl.MaxRate {
		return p, "?"
	}
	q, id := expectedServe(p, list, d, impl.FitFirst)
	if id == 0 {
		return p, "blocked"
	}
	return q, "light " + strconv.Itoa(id)
}

// expectedExecute executes a line in a valid console whose log has records to itself.
func expectedExecute(c impl.Console, line string) (impl.Console, string) {
	if len(line) < 1 || len(line) > impl.MaxCommand || strings.ContainsFunc(line, func(r rune) bool { return r < 32 || r > 126 || r == '#' || r == '@' }) {
		return c, "bad"
	}
	if c.Log.Count == impl.MaxRecords {
		return c, "full"
	}
	p, reply := expectedCommand(c.Plan, c.Formats, line)
	if len(reply) > impl.MaxReply {
		reply = "long"
	}
	c.Plan = p
	c.Log.Pending += expectedEncoding(c.Log.Count, record(line, reply))
	c.Log.Count++
	return c, reply
}

// brokenConsoles returns consoles each of which breaks one rule.
func brokenConsoles() []impl.Console {
	var list []impl.Console
	for _, p := range brokenPlans() {
		list = append(list, console(p))
	}
	for _, f := range badFormats() {
		list = append(list, impl.Console{Plan: twoLights(), Formats: f})
	}
	for i, l := range brokenLogs() {
		if i%7 == 0 {
			list = append(list, impl.Console{Plan: twoLights(), Formats: tens(), Log: l})
		}
	}
	return append(list, impl.Console{})
}

func TestNewConsole(t *testing.T) {
	for _, n := range sampleNetworks() {
		for _, list := range sampleFormats() {
			c := impl.Console{Plan: plan(n), Formats: list}
			check(t, impl.NewConsole, in(n, list), out(c, true))
			check(t, impl.IsValidConsole, in(c), out(true))
		}
		for _, list := range badFormats() {
			checkFails(t, impl.NewConsole, n, list)
		}
	}
	for _, n := range brokenNetworks() {
		checkFails(t, impl.NewConsole, n, tens())
	}
}

func TestIsValidConsole(t *testing.T) {
	for _, p := range allPlans() {
		c := console(p)
		c.Log = logOf(2, manyRecords(5)...)
		check(t, impl.IsValidConsole, in(c), out(true))
	}
	for i, c := range brokenConsoles() {
		check(t, impl.IsValidConsole, in(c), out(false))
		check(t, impl.ExecuteCommand, in(c, "lights"), out(c, "no"))
		if i%10 == 0 {
			// An invalid console comes first.
			check(t, impl.ExecuteCommand, in(c, "a@b"), out(c, "no"))
			check(t, impl.ExecuteCommand, in(c, ""), out(c, "no"))
		}
		checkFails(t, impl.RunScript, c, "lights")
		checkFails(t, impl.FormatConsole, c)
	}
}

// compareCommands executes lines one after the other, and compares the replies with those that are
// given, and everything with what is expected.
func compareCommands(t *testing.T, c impl.Console, lines ...[2]string) impl.Console {
	t.Helper()
	for _, line := range lines {
		next, reply := expectedExecute(c, line[0])
		if reply != line[1] {
			t.Errorf("the reply to %q is expected as %q, not %q", line[0], reply, line[1])
		}
		check(t, impl.ExecuteCommand, in(c, line[0]), out(next, line[1]))
		c = next
	}
	return c
}

func TestExecuteCommand(t *testing.T) {
	c := compareCommands(t, console(plan(square())), [][2]string{
		{"lights", "-"}, {"use", "0 0"}, {"height", "0"}, {"defrag", "-"}, {"show 1", "?"}, {"drop 1", "?"}, {"move 1 0+1", "?"},
		{"serve a c 50", "light 1"}, {"show 1", "a.0.b.2.c 0+3"}, {"use", "6 3"}, {"height", "3"}, {"add 7 a.1.d 4+2", "ok"}, {"move 7 6+2", "ok"}, {"lights", "1 7"}, {"defrag", "7"},
		{"show 7", "a.1.d 0+2"}, {"route a d", "a.1.d"}, {"route d b", "d.3.c.2.b"}, {"drop 7", "ok"}, {"drop 7", "?"}, {"serve a c 1000", "blocked"}, {"serve a a 10", "?"}, {"what", "?"},
		{"add 999 d.3.c.2.b 3+21", "ok"}, {"use", "48 24"}, {"height", "24"}, {"serve b c 1", "blocked"}, {"serve d a 1", "light 2"}, {"show 2", "d.1.a 0+1"},
	}...)
	// The plan and the log go on together.
	if c.Log.Count != 29 || len(c.Plan.Lights) != 3 || c.Log.Durable != "" {
		t.Errorf("the console is %v", c)
	}
	check(t, impl.IsValidConsole, in(c), out(true))
}

// TestExecuteCommandOfMalformedLines has lines that are no commands: all of them are recorded.
func TestExecuteCommandOfMalformedLines(t *testing.T) {
	c := console(plan(square(), light(1, route(0, 0, 2), 0, 3), light(5, route(0, 1), 2, 2)))
	lines := []string{
		// Missing words.
		"serve", "serve a", "serve a c", "add", "add 9", "add 9 a.1.d", "drop", "move", "move 1", "route", "route a", "show",
		// Words too many, also such that are empty.
		"serve a c 5 1", "add 9 a.1.d 9+1 1", "drop 1 1", "move 1 9+1 1", "defrag 1", "route a c c", "show 1 1", "use 1", "height 0", "lights 1",
		"serve a c 5 ", "add 9 a.1.d 9+1 ", "drop 1 ", "move 1 9+1 ", "defrag ", "route a c ", "show 1 ", "use ", "height ", "lights ",
		// Double, leading and other spaces.
		"serve  a c 5", "serve a  c 5", "serve a c  5", "add  9 a.1.d 9+1", "add 9 a.1.d  9+1", "drop  1", "move 1  9+1", "route a  c", "show  1", " use", " lights", "  ", " ", "  lights", "lights  ",
		// Unknown commands, and names in other letters or parts.
		"x", "Use", "LIGHTS", "light", "lightss", "servea", "?", "ok", "use.", "serve,a,c,5", "0", "-", "drop1",
		// Numbers with leading zeros and signs, and others that are no numbers or too large.
		"drop 01", "drop +1", "drop -1", "drop 1.0", "drop a", "drop 0", "drop 1000000", "show 001", "show -0", "move 01 9+1", "add 09 a.1.d 9+1", "serve a c 05", "serve a c 5.", "serve a c x", "serve a c 99999999999999999999",
		// Rates, Ids and nodes out of range.
		"serve a c 0", "serve a c -5", "serve a c 1001", "add 0 a.1.d 9+1", "add 1000 a.1.d 9+1", "add -3 a.1.d 9+1", "serve a a 5", "route b b", "serve e a 5", "serve a e 5", "route a e", "route e a", "serve A c 5", "route 0 1", "serve 0 2 5",
		// Malformed routes and blocks, and others that are not valid.
		"add 9 a 9+1", "add 9 a.1 9+1", "add 9 a.1.b 9+1", "add 9 a.01.d 9+1", "add 9 a.1.d. 9+1", "add 9 d.0.a 9+1", "add 9 a.0.b.0.a 9+1", "add 9 a.4.d 9+1", "add 9 a.1.d 9", "add 9 a.1.d 9+", "add 9 a.1.d +1", "add 9 a.1.d 9+0", "add 9 a.1.d 24+1",
		"add 9 a.1.d 09+1", "add 9 a.1.d 9+01", "add 9 a.1.d 9-1", "add 9 a.1.d -1+1", "add 9 a.1.d 23+2", "add 9 9+1 a.1.d", "add a.1.d 9 9+1", "move 1 24+1", "move 1 9", "move 1 a.1.d", "move 9+1 1", "move 1 a.1.d 9+1",
		// Lights that do not exist, exist already, or would collide.
		"drop 2", "show 2", "move 2 9+1", "move 0 9+1", "add 1 d.3.c 9+1", "add 9 a.1.d 3+1", "add 9 b.0.a 0+24", "move 5 0+25",
	}
	for i, line := range lines {
		want, _ := expectedExecute(c, line)
		check(t, impl.ExecuteCommand, in(c, line), out(want, "?"))
		if i%20 == 19 {
			c = want // not after every line, because the log would be full
		}
	}
}

// TestExecuteCommandOfBadLines has lines that no record can have: they are not recorded.
func TestExecuteCommandOfBadLines(t *testing.T) {
	c := console(twoLights())
	c.Log = logOf(1, manyRecords(3)...)
	lines := []string{"", "a@b", "@", "use@", "#", "use#", "use\n", "\n", "\tuse", "use\x00", "use\x7f", "\x1f", "\xff", "é", "lights é", strings.Repeat("x", impl.MaxCommand+1), "drop 3" + strings.Repeat(" ", impl.MaxCommand), strings.Repeat("x", 50000)}
	for _, line := range lines {
		check(t, impl.ExecuteCommand, in(c, line), out(c, "bad"))
	}
	// The longest line that is recorded.
	for _, line := range []string{strings.Repeat("x", impl.MaxCommand), "drop 3" + strings.Repeat(" ", impl.MaxCommand-6)} {
		want, _ := expectedExecute(c, line)
		check(t, impl.ExecuteCommand, in(c, line), out(want, "?"))
	}
}

func TestExecuteCommandOfAFullLog(t *testing.T) {
	c := console(twoLights())
	c.Log = logOf(7, manyRecords(impl.MaxRecords)...)
	for _, line := range []string{"lights", "drop 3", "what", "serve a c 5", strings.Repeat("x", impl.MaxCommand)} {
		check(t, impl.ExecuteCommand, in(c, line), out(c, "full"))
	}
	// A line that no record can have comes first.
	for _, line := range []string{"", "a@b", strings.Repeat("x", impl.MaxCommand+1)} {
		check(t, impl.ExecuteCommand, in(c, line), out(c, "bad"))
	}
	c.Log = logOf(7, manyRecords(impl.MaxRecords-1)...)
	want, _ := expectedExecute(c, "drop 3")
	check(t, impl.ExecuteCommand, in(c, "drop 3"), out(want, "ok"))
	check(t, impl.ExecuteCommand, in(want, "drop 5"), out(want, "full"))
}

// TestExecuteCommandOfLongReplies has replies of exactly MaxReply bytes and one more: the command is
// carried out all the same.
func TestExecuteCommandOfLongReplies(t *testing.T) {
	exactly := console(winding(1, 2, 3, 10, 11, 100, 101, 102, 103, 104, 105, 106))
	oneMore := console(winding(1, 2, 3, 4, 100, 101, 102, 103, 104, 105, 106, 107))
	p, reply := expectedCommand(exactly.Plan, tens(), "defrag")
	want, _ := expectedExecute(exactly, "defrag")
	if len(reply) != impl.MaxReply || !samePlan(want.Plan, p) {
		t.Errorf("the reply has %d bytes: %s", len(reply), reply)
	}
	check(t, impl.ExecuteCommand, in(exactly, "defrag"), out(want, reply))
	p, reply = expectedCommand(oneMore.Plan, tens(), "defrag")
	want, _ = expectedExecute(oneMore, "defrag")
	if len(reply) != impl.MaxReply+1 || !samePlan(want.Plan, p) {
		t.Errorf("the reply has %d bytes: %s", len(reply), reply)
	}
	check(t, impl.ExecuteCommand, in(oneMore, "defrag"), out(want, "long"))
}

// randomLine returns a line for a console, which is a command with its arguments most of the time.
func randomLine(p impl.Plan, next func(limit int) int) string {
	names := []string{"serve", "serve", "serve", "add", "add", "add", "drop", "move", "defrag", "route", "show", "use", "height", "lights", "what"}
	name := names[next(len(names))]
	words, routes := []string{name}, expectedRoutes(p.Network)
	for _, kind := range wordKinds[name] {
		switch kind {
		case 'A':
			words = append(words, p.Network.Nodes[next(len(p.Network.Nodes))])
		case 'N':
			number := 1 + next(60)
			if len(p.Lights) > 0 && name != "serve" && name != "add" {
				number = p.Lights[next(len(p.Lights))].Id + next(5)/4
			}
			words = append(words, strconv.Itoa(number))
		case 'R':
			words = append(words, routeText(p.Network, routes[next(len(routes))]))
		case 'B':
			words = append(words, blockText(block(next(20), 1+next(4))))
		}
	}
	switch next(12) {
	case 0:
		words = words[:len(words)-1]
	case 1:
		words = append(words, []string{"", "1", "a"}[next(3)])
	case 2:
		words[next(len(words))] = []string{"", "01", "a", "0+1"}[next(4)]
	}
	return strings.Join(words, " ")
}

func TestConsolesOfSamples(t *testing.T) {
	next := numbers(28)
	replies := map[string]int{}
	for _, n := range []impl.Network{square(), parallels(), trap(), kite(), diagonal(), hub(), network("n1 n2 x", [4]int{0, 1, 400}, [4]int{0, 2, 5000})} {
		c := console(plan(n))
		if next(2) == 0 {
			c.Log = logOf(3, manyRecords(5)...)
		}
		for range 80 {
			line := randomLine(c.Plan, next)
			want, reply := expectedExecute(c, line)
			check(t, impl.ExecuteCommand, in(c, line), out(want, reply))
			name, _, _ := strings.Cut(line, " ")
			if reply == "?" || reply == "blocked" || reply == "full" || reply == "bad" {
				name = reply
			}
			replies[name]++
			c = want
			if c.Log.Count == impl.MaxRecords && next(5) == 0 {
				c.Log = impl.Log{}
			}
		}
		text, _ := impl.FormatPlan(c.Plan)
		check(t, impl.FormatConsole, in(c), out(text, true))
	}
	for _, name := range []string{"serve", "add", "drop", "move", "defrag", "route", "show", "use", "height", "lights", "?", "blocked", "full"} {
		if replies[name] < 3 {
			t.Errorf("there are only %d replies of the kind %q: %v", replies[name], name, replies)
		}
	}
}

func TestRunScript(t *testing.T) {
	c := console(twoLights())
	check(t, impl.RunScript, in(c, "lights"), out([]string{"3 5"}, true))
	check(t, impl.RunScript, in(c, "drop 3\nlights\ndefrag\nshow 5"), out([]string{"ok", "5", "5", "a.0.b 0+2"}, true))
	// Empty lines, also behind a newline at the end, and other lines that are not recorded.
	check(t, impl.RunScript, in(c, ""), out([]string{"bad"}, true))
	check(t, impl.RunScript, in(c, "\n"), out([]string{"bad", "bad"}, true))
	check(t, impl.RunScript, in(c, "use\n"), out([]string{"4 4", "bad"}, true))
	check(t, impl.RunScript, in(c, "\nuse\n\na@b\ruse\nheight"), out([]string{"bad", "4 4", "bad", "bad", "4"}, true))
	// Scripts of MaxScriptLines lines and one more.
	lines := strings.Repeat("use\n", impl.MaxScriptLines-1) + "height"
	check(t, impl.RunScript, in(c, lines), out(append(slices.Repeat([]string{"4 4"}, impl.MaxScriptLines-1), "4"), true))
	checkFails(t, impl.RunScript, c, lines+"\n")
	checkFails(t, impl.RunScript, c, "use\n"+lines)
	checkFails(t, impl.RunScript, c, strings.Repeat("\n", impl.MaxScriptLines))
	check(t, impl.RunScript, in(c, strings.Repeat("\n", impl.MaxScriptLines-1)), out(slices.Repeat([]string{"bad"}, impl.MaxScriptLines), true))
	// Scripts of MaxString bytes and one more.
	long := "use\n" + strings.Repeat("x", impl.MaxString-4)
	check(t, impl.RunScript, in(c, long), out([]string{"4 4", "bad"}, true))
	checkFails(t, impl.RunScript, c, long+"x")
	checkFails(t, impl.RunScript, c, strings.Repeat("x", impl.MaxString)+"\n")
	// A log that becomes full.
	c.Log = logOf(0, manyRecords(impl.MaxRecords-2)...)
	check(t, impl.RunScript, in(c, "drop 5\nlights\ndrop 3\n\nlights"), out([]string{"ok", "3", "full", "bad", "full"}, true))
}

func TestReplayLog(t *testing.T) {
	n, list := square(), formats(1000, 10, 300, 20)
	var done []impl.LogRecord
	c := console(plan(n))
	for _, line := range []string{"serve a c 50", "add 7 a.1.d 4+2", "serve a c 1000", "what", "defrag", "lights", "drop 1", "use", "show 7"} {
		var reply string
		c, reply = expectedExecute(c, line)
		done = append(done, record(line, reply))
	}
	check(t, impl.ReplayLog, in(n, list, impl.Log{}), out(0, true))
	for durable := range len(done) + 1 {
		check(t, impl.ReplayLog, in(n, list, logOf(durable, done...)), out(len(done), true))
	}
	// Logs with a reply that differs, and with more than one.
	for i := range done {
		changed := slices.Clone(done)
		for _, reply := range []string{"", "!", changed[i].Reply + " ", "no", "bad", "full"} {
			changed[i].Reply = reply
			check(t, impl.ReplayLog, in(n, list, logOf(0, changed...)), out(i, true))
			changed[len(done)-1].Reply = "!"
			check(t, impl.ReplayLog, in(n, list, logOf(i, changed...)), out(i, true))
			changed[len(done)-1].Reply = done[len(done)-1].Reply
		}
	}
	// Other commands, formats and networks lead to other replies.
	missing := slices.Delete(slices.Clone(done), 1, 2)
	check(t, impl.ReplayLog, in(n, list, logOf(0, missing...)), out(3, true))
	check(t, impl.ReplayLog, in(n, formats(1000, 1), logOf(0, done...)), out(0, true))
	check(t, impl.ReplayLog, in(network("a b c d"), list, logOf(0, done...)), out(0, true))
	// As many records as possible.
	many := slices.Repeat(records(record("lights", "-"), record("drop 1", "?")), impl.MaxRecords/2)
	check(t, impl.ReplayLog, in(n, list, logOf(9, many...)), out(impl.MaxRecords, true))
	many[impl.MaxRecords-1].Reply = "ok"
	check(t, impl.ReplayLog, in(n, list, logOf(9, many...)), out(impl.MaxRecords-1, true))
	for _, l := range brokenLogs() {
		checkFails(t, impl.ReplayLog, n, list, l)
	}
	for _, n := range brokenNetworks() {
		checkFails(t, impl.ReplayLog, n, list, logOf(0, done...))
		checkFails(t, impl.ReplayLog, n, list, impl.Log{})
	}
	for _, list := range badFormats() {
		checkFails(t, impl.ReplayLog, n, list, logOf(0, done...))
	}
}

func TestFormatConsole(t *testing.T) {
	for _, p := range allPlans() {
		text, ok := impl.FormatPlan(p)
		check(t, impl.FormatConsole, in(console(p)), out(text, ok))
	}
	check(t, impl.FormatConsole, in(console(plan(network("a b")))), out("nodes a b\n", true))
	check(t, impl.FormatConsole, in(console(plan(network("a b", [4]int{0, 1, 7, 3}), light(4, route(1, 0), 2, 3)))), out("nodes a b\nfiber a b 7 risk 3\nlight 4 b.0.a 2+3\n", true))
}
