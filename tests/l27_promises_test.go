package tests

import (
	"slices"
	"strings"
	"testing"

	"loop.example/g00897/impl"
)

// The tests of this file would fail if promise 27, or promise 29 for a function of chapter 27, were
// broken.

// randomRecord returns a valid record.
func randomRecord(next func(limit int) int) impl.LogRecord {
	text := func(limit int, signs string) string {
		var b strings.Builder
		for range next(limit + 1) {
			b.WriteByte(signs[next(len(signs))])
		}
		return b.String()
	}
	limits := [][2]int{{8, 8}, {30, 30}, {impl.MaxCommand - 1, impl.MaxReply}}[next(3)]
	return record("c"+text(limits[0], strings.ReplaceAll(printable(), "@", "")), text(limits[1], printable()))
}

// appended appends records to an empty log, and makes those up to some of them durable.
func appended(t *testing.T, durable int, list []impl.LogRecord) impl.Log {
	t.Helper()
	l := impl.Log{}
	for i, e := range list {
		var code int
		if l, code = impl.AppendRecord(l, e); code != impl.LogOK || l.Count != i+1 {
			t.Fatalf("record %d is not appended: %v, %d", i, l, code)
		}
		if i+1 == durable {
			l, _ = impl.SyncLog(l)
		}
	}
	return l
}

// TestPromise27AppendedRecordsSurviveInOrder lets logs crash, and reads them again: all durable
// records survive, and the pending ones up to the line that is cut off or torn.
func TestPromise27AppendedRecordsSurviveInOrder(t *testing.T) {
	next := numbers(27)
	lost, kept := 0, 0
	for range 300 {
		var list []impl.LogRecord
		for range 1 + next(12) {
			list = append(list, randomRecord(next))
		}
		durable := next(len(list) + 1)
		l := appended(t, durable, list)
		if all, ok := impl.LogRecords(l); !ok || !slices.Equal(all, list) || !impl.IsValidLog(l) {
			t.Fatalf("the records of %v are %v, %v", l, all, ok)
		}
		keep, torn := next(len(l.Pending)+1), next(2) == 0
		left, ok := impl.CrashLog(l, keep, torn)
		again, size, fine := impl.RecoverLog(left)
		survivors, valid := impl.LogRecords(again)
		if !ok || !fine || !valid || again.Pending != "" || again.Count != len(survivors) || left[:size] != again.Durable {
			t.Fatalf("%v is recovered as %v after %d bytes: %v", left, again, size, survivors)
		}
		whole := strings.Count(l.Durable+l.Pending[:keep], "\n")
		if torn && keep > 0 && l.Pending[keep-1] == '\n' {
			whole--
		}
		if len(survivors) != whole || len(survivors) < durable || !slices.Equal(survivors, list[:whole]) {
			t.Errorf("of the records %v survive %v, but %d lines are whole and %d durable", list, survivors, whole, durable)
		}
		kept, lost = kept+whole, lost+len(list)-whole
		// The log goes on behind the records that survive.
		if more, code := impl.AppendRecord(again, randomRecord(next)); code != impl.LogOK || more.Durable != again.Durable || more.Count != whole+1 {
			t.Errorf("a record is appended to %v: %v, %d", again, more, code)
		}
	}
	if kept < 300 || lost < 300 {
		t.Errorf("only %d records are kept, and %d are lost", kept, lost)
	}
}

// TestPromise27CorruptionStopsAtTheFirstCorruptedLine changes every byte of a log, and takes bytes
// away: the records of the lines before survive, and no others.
func TestPromise27CorruptionStopsAtTheFirstCorruptedLine(t *testing.T) {
	next := numbers(271)
	list := records(record("serve a b 9", "light 1"), record("use", ""), record("x", "@@@"), record("drop 1", "ok"))
	text := textOf(list...)
	for at := range len(text) {
		line := strings.Count(text[:at], "\n")
		want := textOf(list[:line]...)
		changed := []string{text[:at], text[:at] + text[at+1:], text[:at] + "x" + text[at:]}
		for _, b := range []byte{text[at] ^ 1, text[at] ^ 128, 255 - text[at], '\n', '#', '@', '0', byte(next(256))} {
			if b != text[at] {
				changed = append(changed, text[:at]+string([]byte{b})+text[at+1:])
			}
		}
		for _, s := range changed {
			l, size, ok := impl.RecoverLog(s)
			survivors, valid := impl.LogRecords(l)
			if !ok || !valid || size != len(want) || l.Durable != want || l.Count != line || !slices.Equal(survivors, list[:line]) {
				t.Errorf("RecoverLog(%q) = %v, %d, %v instead of %d records", s, l, size, ok, line)
			}
			whole := impl.Log{Durable: s, Count: len(list)}
			if s != want && impl.IsValidLog(whole) {
				t.Errorf("%q is a valid log", s)
			}
		}
	}
}

func logCandidates() candidates {
	c := candidates{}
	for i, l := range brokenLogs() {
		if i%9 == 0 {
			c.add(l)
		}
	}
	c.add(impl.Log{}, logOf(0, manyRecords(3)...), logOf(2, manyRecords(3)...), logOf(60, manyRecords(60)...))
	for i, e := range badRecords() {
		if i%40 == 0 {
			c.add(e)
		}
	}
	c.add(record("x", ""), record("serve a b 5", "light 1"), record(strings.Repeat("x", 160), strings.Repeat("@", 200)))
	for i, s := range badTexts() {
		if i%4 == 0 {
			c.add(s)
		}
	}
	c.add("", textOf(manyRecords(9)...), strings.Repeat("x", 30001))
	c.add(false, true)
	c.add(minInt, -1, 0, 1, 20, 59, 60, maxInt)
	return c
}

func TestPromise29LogFunctions(t *testing.T) {
	c := logCandidates()
	for _, f := range []any{impl.IsValidRecord, impl.EncodeRecord, impl.IsValidLog, impl.AppendRecord, impl.SyncLog, impl.CrashLog, impl.RecoverLog, impl.LogRecords} {
		sweep(t, f, c, 1500, func(args []any) bool {
			l, ok := args[0].(impl.Log)
			return ok && !impl.IsValidLog(l)
		})
	}
}
