package tests

import (
	"strconv"
	"strings"
	"testing"

	"loop.example/g00897/impl"
)

// The tests of this file compare every function of chapter 27 with what the document states:
// ordinary inputs, the edge cases that the chapter names, and invalid inputs.

func record(command string, reply string) impl.LogRecord {
	return impl.LogRecord{Command: command, Reply: reply}
}

func records(list ...impl.LogRecord) []impl.LogRecord { return list }

// sealed returns a line with its checksum.
func sealed(text string) string {
	return text + "#" + strconv.Itoa(expectedChecksum(text)) + "\n"
}

// expectedEncoding returns the encoding of a valid record.
func expectedEncoding(k int, e impl.LogRecord) string {
	return sealed(strconv.Itoa(k) + " " + e.Command + "@" + e.Reply)
}

// textOf returns the encodings of records.
func textOf(list ...impl.LogRecord) string {
	text := ""
	for k, e := range list {
		text += expectedEncoding(k, e)
	}
	return text
}

// logOf returns the log of records of which the first ones are durable.
func logOf(durable int, list ...impl.LogRecord) impl.Log {
	size := len(textOf(list[:durable]...))
	return impl.Log{Durable: textOf(list...)[:size], Pending: textOf(list...)[size:], Count: len(list)}
}

// manyRecords returns different valid records, some of them with texts at their limits.
func manyRecords(count int) []impl.LogRecord {
	list := records()
	for i := range count {
		e := record("serve a b "+strconv.Itoa(i), "light "+strconv.Itoa(i*i))
		switch i % 7 {
		case 1:
			e = record(strings.Repeat("~", impl.MaxCommand), strings.Repeat("@", impl.MaxReply))
		case 3:
			e = record(" ", "")
		case 5:
			e = record("0 x", "a@b 1@")
		}
		list = append(list, e)
	}
	return list
}

// printable returns all bytes that a Reply may have.
func printable() string {
	text := ""
	for b := byte(32); b <= 126; b++ {
		if b != '#' {
			text += string(rune(b))
		}
	}
	return text
}

// badRecords returns records that are not valid.
func badRecords() []impl.LogRecord {
	list := records(record("", ""), record("", "ok"), record("a@b", ""), record("@", ""), record(strings.Repeat("x", impl.MaxCommand+1), ""), record("x", strings.Repeat("x", impl.MaxReply+1)))
	for b := range 256 {
		if b < 32 || b > 126 || b == '#' {
			part := string([]byte{byte(b)})
			list = append(list, record("a"+part, ""), record(part+"a", "b"), record("a", part), record("a", "b"+part+"c"))
		}
	}
	return list
}

func TestIsValidRecord(t *testing.T) {
	valid := append(manyRecords(7), record("x", ""), record(strings.ReplaceAll(printable(), "@", ""), printable()))
	for k, e := range valid {
		check(t, impl.IsValidRecord, in(e), out(true))
		check(t, impl.EncodeRecord, in(k, e), out(expectedEncoding(k, e), true))
	}
	for i, e := range badRecords() {
		check(t, impl.IsValidRecord, in(e), out(false))
		checkFails(t, impl.EncodeRecord, i%impl.MaxRecords, e)
	}
	// A string with unusual bytes in Reply is not valid, though its Command is.
	for _, reply := range []string{"é", "a\x00", "\xff", "a\nb", "\t"} {
		check(t, impl.IsValidRecord, in(record("x", reply)), out(false))
	}
}

func TestEncodeRecord(t *testing.T) {
	check(t, impl.EncodeRecord, in(0, record("count", "3>2")), out(sealed("0 count@3>2"), true))
	check(t, impl.EncodeRecord, in(59, record("x", "@@")), out(sealed("59 x@@@"), true))
	check(t, impl.EncodeRecord, in(7, record("a", "")), out("7 a@#"+strconv.Itoa(expectedChecksum("7 a@"))+"\n", true))
	for _, k := range []int{-1, impl.MaxRecords, minInt, maxInt} {
		checkFails(t, impl.EncodeRecord, k, record("x", ""))
	}
	for k := range impl.MaxRecords {
		check(t, impl.EncodeRecord, in(k, record("x", "y")), out(sealed(strconv.Itoa(k)+" x@y"), true))
	}
}

// badTexts returns texts that begin with an encoding and go on with a line that is not the encoding
// of the next record, with the number of the record.
func badTexts() []string {
	one := textOf(record("a", "b"))
	lines := []string{
		"\n", "x\n", "1 a@b\n", "1 a@b#\n", "1 a@b#5\n", "#\n",
		// Another sequence number, and numbers that are written in another way.
		sealed("0 a@b"), sealed("2 a@b"), sealed("60 a@b"), sealed("01 a@b"), sealed("+1 a@b"), sealed("-1 a@b"), sealed(" 1 a@b"), sealed("1a@b"), sealed("1  @b")[1:], sealed("a@b"), sealed(" a@b"),
		// Records that are not valid, and lines without a mark.
		sealed("1 @b"), sealed("1 ab"), sealed("1"), sealed("1 "), sealed(""), sealed("1 a\tb@c"), sealed("1 a@\x7f"), sealed("1 a@b\r"), sealed("1 \xffa@b"), sealed("1 " + strings.Repeat("x", 161) + "@"), sealed("1 x@" + strings.Repeat("x", 201)),
		// Lines without their ends, with checksums that are wrong or written in another way, and long ones.
		strings.TrimSuffix(sealed("1 a@b"), "\n"), strings.Replace(sealed("1 a@b"), "#", "#0", 1), strings.Replace(sealed("1 a@b"), "\n", " \n", 1), strings.Replace(sealed("1 a@b"), "b", "c", 1),
		strings.Replace(sealed("1 a@b"), "\n", "\r\n", 1), sealed("1 a@b")[1:], strings.Repeat("x", 5000) + "\n", strings.Repeat("#", 5000), " ", "\x00",
	}
	var list []string
	for _, line := range lines {
		list = append(list, one+line, one+line+sealed("1 a@b"))
	}
	return list
}

func TestIsValidLog(t *testing.T) {
	list := manyRecords(impl.MaxRecords)
	for count := range impl.MaxRecords + 1 {
		for _, durable := range []int{0, count / 2, count} {
			l := logOf(durable, list[:count]...)
			check(t, impl.IsValidLog, in(l), out(true))
			if count%6 == 0 {
				check(t, impl.LogRecords, in(l), out(list[:count], true))
				check(t, impl.SyncLog, in(l), out(logOf(count, list[:count]...), true))
			}
		}
	}
	for _, l := range brokenLogs() {
		check(t, impl.IsValidLog, in(l), out(false))
		check(t, impl.AppendRecord, in(l, record("x", "")), out(l, impl.LogInvalid))
		checkFails(t, impl.SyncLog, l)
		checkFails(t, impl.LogRecords, l)
		for _, keep := range []int{0, 1, len(l.Pending)} {
			checkFails(t, impl.CrashLog, l, keep, keep == 1)
		}
	}
}

// brokenLogs returns logs each of which breaks one rule.
func brokenLogs() []impl.Log {
	a, b := record("a", "b"), record("c", "d@e")
	two := textOf(a, b)
	size := len(textOf(a))
	list := []impl.Log{
		// A Count that is wrong.
		{Count: 1}, {Count: -1}, {Count: maxInt}, {Count: minInt}, {Durable: two}, {Durable: two, Count: 1}, {Durable: two, Count: 3}, {Pending: two, Count: 1}, {Pending: two, Count: -2}, {Durable: two, Count: 60},
		// A record twice, a part that is missing, and parts in another order.
		{Durable: two + two, Count: 4}, {Durable: two, Pending: two, Count: 4}, {Durable: two[size:], Count: 1}, {Durable: two[size:], Pending: two[:size], Count: 2}, {Pending: two[size:], Count: 1},
	}
	// A Durable that ends inside an encoding.
	for at := 1; at < len(two); at++ {
		if at != size {
			list = append(list, impl.Log{Durable: two[:at], Pending: two[at:], Count: 2}, impl.Log{Durable: two[:at], Count: 1}, impl.Log{Pending: two[:at], Count: 1})
		}
	}
	for _, text := range badTexts() {
		for count := 1; count <= 3; count++ {
			list = append(list, impl.Log{Durable: text, Count: count}, impl.Log{Durable: text[:len(textOf(a))], Pending: text[len(textOf(a)):], Count: count})
		}
	}
	full := textOf(manyRecords(impl.MaxRecords)...)
	return append(list, impl.Log{Durable: full + sealed("60 x@y"), Count: 61}, impl.Log{Durable: full, Pending: sealed("60 x@y"), Count: 61}, impl.Log{Durable: full, Count: 59}, impl.Log{Durable: full, Pending: "\n", Count: 60})
}

func TestAppendRecord(t *testing.T) {
	list := manyRecords(impl.MaxRecords)
	l := impl.Log{}
	for i, e := range list {
		want := logOf(0, list[:i+1]...)
		check(t, impl.AppendRecord, in(l, e), out(want, impl.LogOK))
		l = want
	}
	// Exactly MaxRecords records and one more; a record that is not valid comes first.
	check(t, impl.AppendRecord, in(l, record("x", "y")), out(l, impl.LogFull))
	check(t, impl.AppendRecord, in(logOf(60, list...), record("x", "y")), out(logOf(60, list...), impl.LogFull))
	check(t, impl.AppendRecord, in(logOf(60, list...), record("", "y")), out(logOf(60, list...), impl.LogInvalid))
	// Only the pending part changes.
	check(t, impl.AppendRecord, in(logOf(2, list[:3]...), list[3]), out(logOf(2, list[:4]...), impl.LogOK))
	check(t, impl.AppendRecord, in(logOf(3, list[:3]...), list[3]), out(logOf(3, list[:4]...), impl.LogOK))
	for _, e := range badRecords() {
		check(t, impl.AppendRecord, in(logOf(1, list[:2]...), e), out(logOf(1, list[:2]...), impl.LogInvalid))
	}
	check(t, impl.AppendRecord, in(impl.Log{}, record("", "")), out(impl.Log{}, impl.LogInvalid))
	check(t, impl.AppendRecord, in(impl.Log{Count: 1}, record("x", "")), out(impl.Log{Count: 1}, impl.LogInvalid))
}

func TestSyncLogAndLogRecords(t *testing.T) {
	list := manyRecords(9)
	check(t, impl.SyncLog, in(impl.Log{}), out(impl.Log{}, true))
	check(t, impl.LogRecords, in(impl.Log{}), out(records(), true))
	for durable := range 10 {
		check(t, impl.SyncLog, in(logOf(durable, list...)), out(logOf(9, list...), true))
		check(t, impl.LogRecords, in(logOf(durable, list...)), out(list, true))
	}
}

func TestCrashLog(t *testing.T) {
	list := manyRecords(5)
	for durable := range 6 {
		l := logOf(durable, list...)
		check(t, impl.CrashLog, in(l, 0, false), out(l.Durable, true))
		// Nothing of the durable part is torn with keep 0.
		check(t, impl.CrashLog, in(l, 0, true), out(l.Durable, true))
		for keep := 1; keep <= len(l.Pending); keep += 1 + keep/40 {
			check(t, impl.CrashLog, in(l, keep, false), out(l.Durable+l.Pending[:keep], true))
			torn := string([]byte{255 - l.Pending[keep-1]})
			check(t, impl.CrashLog, in(l, keep, true), out(l.Durable+l.Pending[:keep-1]+torn, true))
		}
		check(t, impl.CrashLog, in(l, len(l.Pending), false), out(l.Durable+l.Pending, true))
		for _, keep := range []int{-1, len(l.Pending) + 1, minInt, maxInt} {
			checkFails(t, impl.CrashLog, l, keep, false)
			checkFails(t, impl.CrashLog, l, keep, true)
		}
	}
	check(t, impl.CrashLog, in(impl.Log{}, 0, true), out("", true))
	checkFails(t, impl.CrashLog, impl.Log{}, 1, false)
	checkFails(t, impl.CrashLog, impl.Log{}, -1, true)
}

func TestRecoverLog(t *testing.T) {
	list := manyRecords(impl.MaxRecords)
	check(t, impl.RecoverLog, in(""), out(impl.Log{}, 0, true))
	for _, count := range []int{1, 2, 5, 59, 60} {
		text := textOf(list[:count]...)
		check(t, impl.RecoverLog, in(text), out(logOf(count, list[:count]...), len(text), true))
	}
	// Texts that go on with other lines.
	one := textOf(record("a", "b"))
	for _, text := range badTexts() {
		check(t, impl.RecoverLog, in(text), out(impl.Log{Durable: one, Count: 1}, len(one), true))
		if rest := text[len(one):]; !strings.HasPrefix(rest, one) {
			check(t, impl.RecoverLog, in(rest), out(impl.Log{}, 0, true))
		}
	}
	// Lines that are cut off.
	for at := range len(one) {
		check(t, impl.RecoverLog, in(one[:at]), out(impl.Log{}, 0, true))
		check(t, impl.RecoverLog, in(one+sealed("1 c@d")[:at]), out(impl.Log{Durable: one, Count: 1}, len(one), true))
	}
	// A record behind the last one that a log may have.
	full := textOf(list...)
	check(t, impl.RecoverLog, in(full+sealed("60 x@y")), out(logOf(60, list...), len(full), true))
	check(t, impl.RecoverLog, in(full+sealed("0 x@y")), out(logOf(60, list...), len(full), true))
	// Strings of 30000 bytes and one more.
	long := full + strings.Repeat("x", 30000-len(full))
	check(t, impl.RecoverLog, in(long), out(logOf(60, list...), len(full), true))
	checkFails(t, impl.RecoverLog, long+"x")
	check(t, impl.RecoverLog, in(strings.Repeat("\n", 30000)), out(impl.Log{}, 0, true))
	checkFails(t, impl.RecoverLog, strings.Repeat("\n", 30001))
}

// TestRecoverLogAfterEveryCrash lets logs crash at every byte.
func TestRecoverLogAfterEveryCrash(t *testing.T) {
	list := manyRecords(4)
	l := logOf(1, list...)
	for keep := range len(l.Pending) + 1 {
		for _, torn := range []bool{false, true} {
			whole := keep
			if torn && keep > 0 {
				whole--
			}
			count := 1
			for count < len(list) && len(textOf(list[:count+1]...)) <= len(l.Durable)+whole {
				count++
			}
			left, ok := impl.CrashLog(l, keep, torn)
			size := len(textOf(list[:count]...))
			if !ok {
				t.Fatalf("CrashLog(%v, %d, %v) fails", l, keep, torn)
			}
			check(t, impl.RecoverLog, in(left), out(logOf(count, list[:count]...), size, true))
		}
	}
}
