package tests

import (
	"strconv"
	"strings"
	"testing"

	"loop.example/g00897/impl"
)

// The tests of this file would fail if promise 28, or promise 29 for a function of chapter 28, were
// broken.

// TestPromise28ReplayingALogReproducesEveryReply executes commands, right and wrong ones, and replays
// the log: also after it is synchronized, and after a crash.
func TestPromise28ReplayingALogReproducesEveryReply(t *testing.T) {
	next := numbers(281)
	changed := 0
	for _, n := range []impl.Network{square(), parallels(), trap(), kite(), diagonal(), hub(), pentagon(), largest()} {
		list := [][]impl.Format{formats(1000, 10, 300, 20), tens(), formats(20000, 1)}[next(3)]
		c, ok := impl.NewConsole(n, list)
		if !ok {
			t.Fatalf("there is no console for %v", n)
		}
		var replies []string
		for len(replies) < impl.MaxRecords {
			line := randomLineOf(c.Plan, next)
			before := c
			var reply string
			c, reply = impl.ExecuteCommand(c, line)
			if c.Log.Count == len(replies) {
				continue // the line cannot be recorded
			}
			replies = append(replies, reply)
			if !impl.IsValidConsole(c) || c.Log.Count != len(replies) {
				t.Fatalf("%q leads to %v", line, c)
			}
			checkSlots(t, c.Plan)
			if !samePlan(before.Plan, c.Plan) {
				changed++
			}
			if next(9) == 0 {
				c.Log, _ = impl.SyncLog(c.Log)
			}
			checkReplay(t, n, list, c.Log, replies)
		}
		left, _ := impl.CrashLog(c.Log, next(len(c.Log.Pending)+1), next(2) == 0)
		again, _, _ := impl.RecoverLog(left)
		checkReplay(t, n, list, again, replies[:again.Count])
	}
	if changed < 100 {
		t.Errorf("only %d commands change a plan", changed)
	}
}

// randomLineOf returns a line for a console of a network, which may have too many routes to read
// them all.
func randomLineOf(p impl.Plan, next func(limit int) int) string {
	if len(p.Network.Fibers) < 10 {
		return randomLine(p, next)
	}
	name := func() string { return p.Network.Nodes[next(len(p.Network.Nodes))] }
	id := strconv.Itoa(1 + next(12))
	return []string{"serve " + name() + " " + name() + " 15", "serve " + name() + " " + name() + " 2", "drop " + id, "move " + id + " 1+1", "defrag", "show " + id, "lights", "use", "route " + name() + " " + name()}[next(9)]
}

// checkReplay checks that a log has these replies, and that they are reproduced.
func checkReplay(t *testing.T, n impl.Network, list []impl.Format, l impl.Log, replies []string) {
	t.Helper()
	recorded, ok := impl.LogRecords(l)
	if !ok || len(recorded) != len(replies) {
		t.Fatalf("the records of %v are %v, %v", l, recorded, ok)
	}
	for i, e := range recorded {
		if e.Reply != replies[i] {
			t.Errorf("the reply %d to %q is %q, but %q is recorded", i, e.Command, replies[i], e.Reply)
		}
	}
	if same, ok := impl.ReplayLog(n, list, l); !ok || same != len(replies) {
		t.Errorf("only %d of %d replies of %v are reproduced, %v", same, len(replies), l, ok)
	}
}

// TestPromise28AlsoReproducesLongReplies builds a plan by commands whose defragmentation has a reply
// that is too long, but changes the plan all the same.
func TestPromise28AlsoReproducesLongReplies(t *testing.T) {
	p := winding(101, 102, 103, 104, 105, 106, 107, 108, 109, 110, 111, 112)
	c, _ := impl.NewConsole(p.Network, tens())
	replies, reply := []string{}, ""
	for _, x := range p.Lights {
		c, reply = impl.ExecuteCommand(c, "add "+strconv.Itoa(x.Id)+" "+routeText(p.Network, x.Route)+" "+blockText(x.Block))
		replies = append(replies, reply)
	}
	for _, line := range []string{"defrag", "height", "defrag", "defrag", "lights"} {
		c, reply = impl.ExecuteCommand(c, line)
		replies = append(replies, reply)
	}
	want := "ok ok ok ok ok ok ok ok ok ok ok ok long"
	if text := strings.Join(replies[:13], " "); text != want || replies[15] != "-" || replies[14] == "long" {
		t.Errorf("the replies are %q", replies)
	}
	checkReplay(t, p.Network, tens(), c.Log, replies)
}

// TestPromise28ScriptsGiveTheSameReplies runs commands as a script, and one by one.
func TestPromise28ScriptsGiveTheSameReplies(t *testing.T) {
	next := numbers(282)
	for _, n := range []impl.Network{square(), trap(), kite()} {
		c, _ := impl.NewConsole(n, tens())
		at, lines, replies := c, []string{}, []string{}
		for range impl.MaxScriptLines {
			line := randomLine(at.Plan, next)
			var reply string
			at, reply = impl.ExecuteCommand(at, line)
			lines, replies = append(lines, line), append(replies, reply)
		}
		script, ok := impl.RunScript(c, strings.Join(lines, "\n"))
		if !ok || strings.Join(script, "\n") != strings.Join(replies, "\n") {
			t.Errorf("the script %q has the replies %q, not %q", lines, script, replies)
		}
	}
}

func consoleCandidates() candidates {
	c := candidates{}
	for i, x := range brokenConsoles() {
		if i%8 == 0 {
			c.add(x)
		}
	}
	full := console(twoLights())
	full.Log = logOf(1, manyRecords(impl.MaxRecords)...)
	c.add(console(twoLights()), console(plan(network("a b"))), console(gapped()), full)
	c.add("", "lights", "serve a c 50", "add 9 a.1.d 9+1", "drop 3", "move 5 20+1", "defrag", "route a c", "show 3", "use\nheight\n", "a@b", "what", strings.Repeat("x", 161), strings.Repeat("\n", 30), strings.Repeat("x", 5000))
	addNetworksAndFormats(c)
	for i, l := range brokenLogs() {
		if i%20 == 0 {
			c.add(l)
		}
	}
	c.add(impl.Log{}, logOf(2, manyRecords(9)...), logOf(0, record("lights", "-")))
	return c
}

func TestPromise29ConsoleFunctions(t *testing.T) {
	c := consoleCandidates()
	for _, f := range []any{impl.NewConsole, impl.IsValidConsole, impl.ExecuteCommand, impl.RunScript, impl.ReplayLog, impl.FormatConsole} {
		sweep(t, f, c, 1500, func(args []any) bool {
			x, ok := args[0].(impl.Console)
			return ok && !impl.IsValidConsole(x) || startsWithBrokenNetwork(args)
		})
	}
}
