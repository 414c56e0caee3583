package tests

import (
	"slices"
	"strings"
	"testing"
	"unsafe"

	"loop.example/g00897/impl"
)

// The tests of this file would fail if promise 1, or promise 29 for a function of chapter 1, were
// broken.

func TestPromise1NumbersRoundTrip(t *testing.T) {
	for n := -impl.MaxDecimal; n <= impl.MaxDecimal; n++ {
		s, ok := impl.FormatInt(n)
		m, fine := impl.ParseInt(s)
		if !ok || !fine || m != n {
			t.Fatalf("%d becomes %q, %v, and then %d, %v", n, s, ok, m, fine)
		}
	}
}

func TestPromise1NumberTextsRoundTrip(t *testing.T) {
	for _, s := range stringsOver("-+0159", 5) {
		n, ok := impl.ParseInt(s)
		if !ok {
			continue
		}
		if again, fine := impl.FormatInt(n); !fine || again != s {
			t.Errorf("%q becomes %d and then %q, %v", s, n, again, fine)
		}
	}
}

func TestPromise1SplittingRoundTrips(t *testing.T) {
	texts := stringsOver(",a\xff", 6)
	texts = append(texts, strings.Repeat(",", impl.MaxString), strings.Repeat("a,,b", impl.MaxString/4))
	for _, s := range texts {
		for _, sep := range []string{",", "a", "\xff", "x"} {
			parts, ok := impl.SplitString(s, sep)
			if !ok || len(parts) != strings.Count(s, sep)+1 {
				t.Fatalf("SplitString(%.20q, %q): %d elements, %v", s, sep, len(parts), ok)
			}
			if joined, fine := impl.JoinStrings(parts, sep); !fine || joined != s {
				t.Errorf("%.20q split at %q is joined to %.20q, %v", s, sep, joined, fine)
			}
		}
	}
}

// TestPromise1JoiningRoundTrips joins all lists of up to three short elements: exactly the lists
// that are joined, those without the separator in an element, are recovered.
func TestPromise1JoiningRoundTrips(t *testing.T) {
	elements := stringsOver(",a", 2)
	lists := [][]string{{}}
	for first, size := 0, 0; size < 3; size++ {
		last := len(lists)
		for _, list := range lists[first:last] {
			for _, e := range elements {
				lists = append(lists, append(slices.Clone(list), e))
			}
		}
		first = last
	}
	for _, list := range lists {
		joined, ok := impl.JoinStrings(list, ",")
		want := len(list) > 0 && !strings.Contains(strings.Join(list, ""), ",")
		if ok != want {
			t.Errorf("JoinStrings(%q) = %q, %v", list, joined, ok)
		}
		parts, fine := impl.SplitString(joined, ",")
		if ok && (!fine || !slices.Equal(parts, list)) {
			t.Errorf("%q is joined to %q and split to %q, %v", list, joined, parts, fine)
		}
	}
}

func TestPromise1ChecksumsRoundTrip(t *testing.T) {
	texts := append(stringsOver("0#a \xff", 4), strings.Repeat("ab", impl.MaxString/2-4), strings.Repeat("\x00", impl.MaxString-7))
	for _, s := range texts {
		sealed, ok := impl.AppendChecksum(s)
		if ok == strings.Contains(s, "#") {
			t.Errorf("AppendChecksum(%.20q) = %.20q, %v", s, sealed, ok)
		}
		if opened, fine := impl.VerifyChecksum(sealed); ok && (!fine || opened != s) {
			t.Errorf("%.20q is sealed as %.20q and opened as %.20q, %v", s, sealed, opened, fine)
		}
	}
	for _, s := range stringsOver("#7a385", 5) {
		opened, ok := impl.VerifyChecksum(s)
		if sealed, fine := impl.AppendChecksum(opened); ok && (!fine || sealed != s) {
			t.Errorf("%q is opened as %q and sealed as %q, %v", s, opened, sealed, fine)
		}
	}
}

func TestPromise1ChangedByteIsDetected(t *testing.T) {
	texts := []string{
		"", "a", "\x00", "\xff\xff", "aaaaaaaa", "0 serve a b 10@light 1", "nodes a b\nfiber a b 100 risk 2\n",
		strings.Repeat("0123456789", 12),
	}
	for _, s := range texts {
		for at := range len(s) + 2 {
			for change := 1; change < 256; change++ {
				checkChangeDetected(t, s, at, byte(change))
			}
		}
	}
}

func TestPromise1ChangedByteOfALongStringIsDetected(t *testing.T) {
	s := strings.Repeat("spectrum", (impl.MaxString-8)/8)
	for at := range len(s) + 2 {
		for _, change := range []byte{1, 128, byte(1 + at%255)} {
			checkChangeDetected(t, s, at, change)
		}
	}
}

// checkChangeDetected seals s, changes the byte at a place, counted from the end, and checks that
// the result cannot be opened.
func checkChangeDetected(t *testing.T, s string, at int, change byte) {
	t.Helper()
	sealed, ok := impl.AppendChecksum(s)
	if !ok {
		t.Fatalf("AppendChecksum(%.20q) fails", s)
	}
	bytes := []byte(sealed)
	bytes[len(bytes)-1-at] ^= change
	if opened, ok := impl.VerifyChecksum(string(bytes)); ok || opened != "" {
		t.Errorf("%.40q with byte %d changed is opened as %.40q, %v", sealed, len(bytes)-1-at, opened, ok)
	}
}

// volatile returns a string that shows the bytes of a buffer, so that a test can see whether a
// function changes them, and whether a result changes with them.
func volatile(s string) (string, []byte) {
	buffer := []byte(s)
	return unsafe.String(unsafe.SliceData(buffer), len(buffer)), buffer
}

// checkApart overwrites the buffers of the arguments and checks that they had their first bytes
// until then, and that the results keep theirs.
func checkApart(t *testing.T, name string, buffers [][]byte, before []string, results []string) {
	t.Helper()
	kept := make([]string, len(results))
	for i, r := range results {
		kept[i] = strings.Clone(r)
	}
	for i, b := range buffers {
		if string(b) != before[i] {
			t.Errorf("%s changes its argument %d to %q", name, i, b)
		}
		for k := range b {
			b[k] ^= 255
		}
	}
	if !slices.Equal(results, kept) {
		t.Errorf("a result of %s shares memory with an argument: %q instead of %q", name, results, kept)
	}
}

func TestPromise29StringsAreNeitherChangedNorShared(t *testing.T) {
	s, sBytes := volatile("alpha,beta,,gamma")
	sep, sepBytes := volatile(",")
	parts, _ := impl.SplitString(s, sep)
	checkApart(t, "SplitString", [][]byte{sBytes, sepBytes}, []string{"alpha,beta,,gamma", ","}, parts)

	s, sBytes = volatile("undivided")
	sep, sepBytes = volatile(",")
	parts, _ = impl.SplitString(s, sep)
	checkApart(t, "SplitString", [][]byte{sBytes, sepBytes}, []string{"undivided", ","}, parts)

	s, sBytes = volatile("alpha")
	sealed, _ := impl.AppendChecksum(s)
	checkApart(t, "AppendChecksum", [][]byte{sBytes}, []string{"alpha"}, []string{sealed})

	text := sealed
	s, sBytes = volatile(text)
	opened, _ := impl.VerifyChecksum(s)
	checkApart(t, "VerifyChecksum", [][]byte{sBytes}, []string{text}, []string{opened})

	s, sBytes = volatile("-123456")
	impl.ParseInt(s)
	impl.Checksum(s)
	impl.LessString(s, s)
	checkApart(t, "ParseInt, Checksum or LessString", [][]byte{sBytes}, []string{"-123456"}, nil)
}

func TestPromise29JoinedStringsAreNeitherChangedNorShared(t *testing.T) {
	for _, texts := range [][]string{{"alpha", "", "beta"}, {"single"}} {
		var list []string
		var buffers [][]byte
		for _, text := range texts {
			s, b := volatile(text)
			list, buffers = append(list, s), append(buffers, b)
		}
		joined, ok := impl.JoinStrings(list, ";")
		if !ok || !slices.Equal(list, texts) {
			t.Errorf("JoinStrings changes its argument to %q, or fails: %v", list, ok)
		}
		checkApart(t, "JoinStrings", buffers, texts, []string{joined})
	}
}

func TestPromise29ElementsBeyondTheLengthAreUntouched(t *testing.T) {
	whole := []string{"a", "b", "x;y", "z"}
	if s, ok := impl.JoinStrings(whole[:2], ";"); !ok || s != "a;b" {
		t.Errorf("JoinStrings of a part of a slice = %q, %v", s, ok)
	}
	if s, ok := impl.JoinStrings(whole[:0], ";"); ok || s != "" {
		t.Errorf("JoinStrings of the empty part of a slice = %q, %v", s, ok)
	}
	if !slices.Equal(whole, []string{"a", "b", "x;y", "z"}) {
		t.Errorf("JoinStrings changes the slice to %q", whole)
	}
}

func TestPromise29ResultsOfTwoCallsAreApart(t *testing.T) {
	first, _ := impl.SplitString("a,b", ",")
	first[0] = "changed"
	first = append(first[:1], "more")
	if second, ok := impl.SplitString("a,b", ","); !ok || !slices.Equal(second, []string{"a", "b"}) {
		t.Errorf("after a change of the result to %q, SplitString returns %q, %v", first, second, ok)
	}
}

// TestPromise29AllFunctionsReturn calls every function with all kinds of arguments; a failure must
// come with zero results.
func TestPromise29AllFunctionsReturn(t *testing.T) {
	texts := append(stringsOver("\x00-0#\xff", 3), strings.Repeat("#", impl.MaxString), strings.Repeat("9", 1000000))
	for _, n := range []int{minInt, -impl.MaxDecimal - 1, -1, 0, 1, impl.MaxDecimal + 1, maxInt} {
		if s, ok := impl.FormatInt(n); !ok && s != "" {
			t.Errorf("FormatInt(%d) fails with %.20q", n, s)
		}
	}
	for _, a := range texts {
		if n, ok := impl.ParseInt(a); !ok && n != 0 {
			t.Errorf("ParseInt(%.20q) fails with %d", a, n)
		}
		if n, ok := impl.Checksum(a); !ok && n != 0 {
			t.Errorf("Checksum(%.20q) fails with %d", a, n)
		}
		if s, ok := impl.AppendChecksum(a); !ok && s != "" {
			t.Errorf("AppendChecksum(%.20q) fails with %.20q", a, s)
		}
		if s, ok := impl.VerifyChecksum(a); !ok && s != "" {
			t.Errorf("VerifyChecksum(%.20q) fails with %.20q", a, s)
		}
		for _, b := range texts {
			if l, ok := impl.SplitString(a, b); !ok && len(l) != 0 {
				t.Errorf("SplitString(%.20q, %.20q) fails with %.20q", a, b, l)
			}
			if s, ok := impl.JoinStrings([]string{a, b}, b); !ok && s != "" {
				t.Errorf("JoinStrings(%.20q, %.20q) fails with %.20q", a, b, s)
			}
			if impl.LessString(a, b) && impl.LessString(b, a) {
				t.Errorf("%.20q and %.20q are less than each other", a, b)
			}
		}
	}
}
