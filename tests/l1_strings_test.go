package tests

import (
	"slices"
	"strconv"
	"strings"
	"testing"

	"loop.example/g00897/impl"
)

// The tests of this file compare every function of chapter 1 with what the document states:
// ordinary inputs, the edge cases that the chapter names, and invalid inputs.

func TestFormatInt(t *testing.T) {
	valid := map[int]string{
		0: "0", 1: "1", -1: "-1", 9: "9", 10: "10", -10: "-10", -12: "-12", 100: "100",
		4096: "4096", 500000: "500000", impl.MaxDecimal: "999999", -impl.MaxDecimal: "-999999",
	}
	for n, want := range valid {
		if s, ok := impl.FormatInt(n); !ok || s != want {
			t.Errorf("FormatInt(%d) = %q, %v", n, s, ok)
		}
	}
	for _, n := range []int{impl.MaxDecimal + 1, -impl.MaxDecimal - 1, 1 << 32, -1 << 32, 1<<63 - 1, -1 << 63} {
		if s, ok := impl.FormatInt(n); ok || s != "" {
			t.Errorf("FormatInt(%d) = %q, %v", n, s, ok)
		}
	}
}

func TestParseInt(t *testing.T) {
	valid := map[string]int{
		"0": 0, "7": 7, "-1": -1, "10": 10, "-12": -12, "907": 907, "100000": 100000,
		"999999": impl.MaxDecimal, "-999999": -impl.MaxDecimal,
	}
	for s, want := range valid {
		if n, ok := impl.ParseInt(s); !ok || n != want {
			t.Errorf("ParseInt(%q) = %d, %v", s, n, ok)
		}
	}
	invalid := []string{
		"", "-", "--1", "-+1", "+", "+1", "+0", "-0", "-00", "00", "01", "-01", "0000001", "0-", "1-", "1-2",
		"1000000", "-1000000", "9999990", " 1", "1 ", "1\n", "\t1", "1x", "x", "x1", "-x", "0x1", "0b1",
		"1_000", "1,000", "1.0", "1e3", "/", ":", "1/", "1:", "1\x00", "\x00", "\xff", "\u0661", "\uff11", "\u22121",
		"4294967297", "18446744073709551616", "18446744073709551617", "-18446744073709551617",
		strings.Repeat("0", impl.MaxString), strings.Repeat("9", impl.MaxString+1), "-" + strings.Repeat("1", 100000),
	}
	for _, s := range invalid {
		if n, ok := impl.ParseInt(s); ok || n != 0 {
			t.Errorf("ParseInt(%q) = %d, %v", s, n, ok)
		}
	}
}

func TestParseIntOfAllShortStrings(t *testing.T) {
	for _, s := range stringsOver("-+0129 x", 4) {
		n, err := strconv.Atoi(s)
		want := err == nil && strconv.Itoa(n) == s
		if !want {
			n = 0
		}
		if m, ok := impl.ParseInt(s); ok != want || m != n {
			t.Errorf("ParseInt(%q) = %d, %v", s, m, ok)
		}
	}
}

func TestSplitString(t *testing.T) {
	cases := []struct {
		s, sep string
		want   []string
	}{
		{"a,,b", ",", []string{"a", "", "b"}},
		{"", ",", []string{""}},
		{",", ",", []string{"", ""}},
		{",,", ",", []string{"", "", ""}},
		{"abc", ",", []string{"abc"}},
		{",a,", ",", []string{"", "a", ""}},
		{"one two three", " ", []string{"one", "two", "three"}},
		{"a;b,c", ",", []string{"a;b", "c"}},
		{"aaa", "a", []string{"", "", "", ""}},
		{"a\nb\n", "\n", []string{"a", "b", ""}},
		{"a\x00b", "\x00", []string{"a", "b"}},
		{"\xff\xfe\xff", "\xff", []string{"", "\xfe", ""}},
		{"a#b", "#", []string{"a", "b"}},
		{"\u00e9x", "\xa9", []string{"\xc3", "x"}}, // bytes, not runes
		{strings.Repeat("a", impl.MaxString), ",", []string{strings.Repeat("a", impl.MaxString)}},
		{strings.Repeat(",", impl.MaxString), ",", make([]string, impl.MaxString+1)},
	}
	for _, c := range cases {
		if parts, ok := impl.SplitString(c.s, c.sep); !ok || !slices.Equal(parts, c.want) {
			t.Errorf("SplitString(%.20q, %q) = %.20q, %v", c.s, c.sep, parts, ok)
		}
	}
}

func TestSplitStringInvalid(t *testing.T) {
	cases := []struct{ s, sep string }{
		{"a,b", ""}, {"", ""}, {"a,,b", ",,"}, {"a,b", ",b"}, {"", ",;"}, {"a\u00e9b", "\u00e9"},
		{"a,b", "a,b"}, {"a,b", strings.Repeat(",", impl.MaxString)},
		{strings.Repeat("a", impl.MaxString+1), ","},
		{strings.Repeat(",", impl.MaxString+1), ","},
		{strings.Repeat("a", impl.MaxString) + ",", ","},
		{strings.Repeat("a", impl.MaxString+1), ""},
	}
	for _, c := range cases {
		if parts, ok := impl.SplitString(c.s, c.sep); ok || len(parts) != 0 {
			t.Errorf("SplitString(%.20q, %.20q) = %.20q, %v", c.s, c.sep, parts, ok)
		}
	}
}

func TestJoinStrings(t *testing.T) {
	half := strings.Repeat("a", impl.MaxString/2)
	cases := []struct {
		parts []string
		sep   string
		want  string
	}{
		{[]string{"a", "", "b"}, ";", "a;;b"},
		{[]string{""}, ",", ""},
		{[]string{"abc"}, ",", "abc"},
		{[]string{"", ""}, ",", ","},
		{[]string{"", "a", ""}, " ", " a "},
		{[]string{"a;b", "c"}, ",", "a;b,c"},
		{[]string{"x", "y"}, "\x00", "x\x00y"},
		{[]string{"x", "y"}, "\xff", "x\xffy"},
		{[]string{"\u00e9", "y"}, "\xaa", "\u00e9\xaay"},
		{[]string{strings.Repeat("a", impl.MaxString)}, ",", strings.Repeat("a", impl.MaxString)},
		{[]string{half, half[1:]}, ",", half + "," + half[1:]},
		{make([]string, impl.MaxString+1), ",", strings.Repeat(",", impl.MaxString)},
	}
	for _, c := range cases {
		if s, ok := impl.JoinStrings(c.parts, c.sep); !ok || s != c.want {
			t.Errorf("JoinStrings(%.20q, %q) = %.20q, %v", c.parts, c.sep, s, ok)
		}
	}
}

func TestJoinStringsInvalid(t *testing.T) {
	half := strings.Repeat("a", impl.MaxString/2)
	cases := []struct {
		parts []string
		sep   string
	}{
		{nil, ","}, {[]string{}, ","}, {nil, ""}, {nil, ",,"},
		{[]string{"a", "b"}, ""}, {[]string{"a"}, ""}, {[]string{""}, ""},
		{[]string{"a", "b"}, ",,"}, {[]string{"a"}, ",;"}, {[]string{""}, "\u00e9"},
		{[]string{"a;b"}, ";"}, {[]string{";"}, ";"}, {[]string{";a", "b"}, ";"}, {[]string{"a;", "b"}, ";"},
		{[]string{"a", "b;c", "d"}, ";"}, {[]string{"a", "b", "c;"}, ";"}, {[]string{"", "", ";"}, ";"},
		{[]string{"\u00e9", "y"}, "\xa9"}, {[]string{"a\x00", "y"}, "\x00"},
		{[]string{strings.Repeat("a", impl.MaxString-1) + ",", ""}, ","},
		{[]string{strings.Repeat("a", impl.MaxString-1) + ","}, ","},
		{[]string{strings.Repeat("a", impl.MaxString+1)}, ","},
		{[]string{half, half}, ","},
		{[]string{"", strings.Repeat("a", impl.MaxString)}, ","},
		{[]string{strings.Repeat("a", impl.MaxString), ""}, ","},
		{[]string{strings.Repeat("a", impl.MaxString), "", ""}, ","},
		{make([]string, impl.MaxString+2), ","},
		{make([]string, 3*impl.MaxString), ","},
	}
	for _, c := range cases {
		if s, ok := impl.JoinStrings(c.parts, c.sep); ok || s != "" {
			t.Errorf("JoinStrings(%.20q, %q) = %.20q, %v", c.parts, c.sep, s, ok)
		}
	}
}

func TestLessString(t *testing.T) {
	long := strings.Repeat("a", 2*impl.MaxString) // no limit is stated for LessString
	ascending := []string{
		"", "\x00", "\x00\x00", "\x00\xff", " ", "#", "-", "0", "1", "10", "2", "A", "Z", "a", "a\x00", "aa",
		long, long + "a", "ab", "b", "z", "~", "\x7f", "\x80", "\xc3\xa9", "\xfe\xff", "\xff", "\xff\x00",
	}
	for i, a := range ascending {
		for k, b := range ascending {
			if impl.LessString(a, b) != (i < k) {
				t.Errorf("LessString(%.20q, %.20q) = %v", a, b, i >= k)
			}
		}
	}
}

func TestLessStringOfAllShortStrings(t *testing.T) {
	list := stringsOver("\x00a\x80\xff", 3)
	for _, a := range list {
		for _, b := range list {
			want := slices.Compare([]byte(a), []byte(b)) < 0
			if impl.LessString(a, b) != want {
				t.Errorf("LessString(%q, %q) = %v", a, b, !want)
			}
		}
	}
}

func TestChecksum(t *testing.T) {
	valid := map[string]int{
		"": 7, "a": 385, "b": 386, "\x00": 288, "\xff": 543, "#": 323, "ab": 15884, "ba": 15924,
		"abc": 651344, "abcd": 705751, "\u00e9": 483*41 + 170,
	}
	for s, want := range valid {
		if n, ok := impl.Checksum(s); !ok || n != want {
			t.Errorf("Checksum(%q) = %d, %v", s, n, ok)
		}
	}
	for _, c := range []string{"a", "\x00", "\xff", "z9#"} {
		for _, size := range []int{1, 4, 5, 100, impl.MaxString - 1, impl.MaxString} {
			s := strings.Repeat(c, size)[:size]
			if n, ok := impl.Checksum(s); !ok || n != expectedChecksum(s) {
				t.Errorf("Checksum of %d bytes %q = %d, %v", size, c, n, ok)
			}
		}
		for _, size := range []int{impl.MaxString + 1, 3 * impl.MaxString} {
			if n, ok := impl.Checksum(strings.Repeat(c, size)); ok || n != 0 {
				t.Errorf("Checksum of %d bytes %q = %d, %v", size, c, n, ok)
			}
		}
	}
}

func TestAppendChecksum(t *testing.T) {
	valid := map[string]string{
		"": "#7", "a": "a#385", "ab": "ab#15884", "abc": "abc#651344", "\x00": "\x00#288", "\xff\n": "\xff\n#" + strconv.Itoa(543*41+11),
		"0 add 1@ok": "0 add 1@ok#" + strconv.Itoa(expectedChecksum("0 add 1@ok")),
	}
	for s, want := range valid {
		if sealed, ok := impl.AppendChecksum(s); !ok || sealed != want {
			t.Errorf("AppendChecksum(%q) = %q, %v", s, sealed, ok)
		}
	}
	invalid := []string{
		"#", "#a", "a#", "a#b", "a#385", "##", "#7", strings.Repeat("a", 100) + "#",
		strings.Repeat("a", impl.MaxString-1), strings.Repeat("a", impl.MaxString), strings.Repeat("a", impl.MaxString+1),
		strings.Repeat("#", impl.MaxString), strings.Repeat("a", 3*impl.MaxString),
	}
	for _, s := range invalid {
		if sealed, ok := impl.AppendChecksum(s); ok || sealed != "" {
			t.Errorf("AppendChecksum(%.20q) = %.20q, %v", s, sealed, ok)
		}
	}
}

func TestAppendChecksumAtTheLimit(t *testing.T) {
	for digits := 5; digits <= 6; digits++ {
		s := stringWithDigits(t, impl.MaxString-1-digits, digits)
		want := s + "#" + strconv.Itoa(expectedChecksum(s))
		if sealed, ok := impl.AppendChecksum(s); !ok || sealed != want || len(sealed) != impl.MaxString {
			t.Errorf("AppendChecksum of %d bytes: %d bytes, %v", len(s), len(sealed), ok)
		}
		if opened, ok := impl.VerifyChecksum(want); !ok || opened != s {
			t.Errorf("VerifyChecksum of %d bytes: %d bytes, %v", len(want), len(opened), ok)
		}
		s = stringWithDigits(t, impl.MaxString-digits, digits)
		if sealed, ok := impl.AppendChecksum(s); ok || sealed != "" {
			t.Errorf("AppendChecksum of %d bytes: %d bytes, %v", len(s), len(sealed), ok)
		}
		tooLong := s + "#" + strconv.Itoa(expectedChecksum(s))
		if opened, ok := impl.VerifyChecksum(tooLong); ok || opened != "" {
			t.Errorf("VerifyChecksum of %d bytes: %d bytes, %v", len(tooLong), len(opened), ok)
		}
	}
}

func TestVerifyChecksum(t *testing.T) {
	valid := map[string]string{"#7": "", "a#385": "a", "ab#15884": "ab", "abc#651344": "abc", "\x00#288": "\x00"}
	for s, want := range valid {
		if opened, ok := impl.VerifyChecksum(s); !ok || opened != want {
			t.Errorf("VerifyChecksum(%q) = %q, %v", s, opened, ok)
		}
	}
	invalid := []string{
		"", "a", "7", "385", "a385", "#", "##", "a#", "#385", "a#384", "a#386", "b#385", "A#385", "ba#15884",
		"a#0385", "a#+385", "a#-385", "a# 385", "a#385 ", "a#385\n", "a#385#1", "a#385#", "a##385", "#a#385", "a#38", "a#3850",
		"a#1000364", "#1000972", "#07", "#-0", "#0", "a#b#" + strconv.Itoa(expectedChecksum("a#b")),
		"#7a", "a#18446744073709552001", strings.Repeat("a", impl.MaxString), strings.Repeat("#", impl.MaxString+1),
		strings.Repeat("a", 3*impl.MaxString) + "#" + strconv.Itoa(expectedChecksum(strings.Repeat("a", 3*impl.MaxString))),
	}
	for _, s := range invalid {
		if opened, ok := impl.VerifyChecksum(s); ok || opened != "" {
			t.Errorf("VerifyChecksum(%.20q) = %.20q, %v", s, opened, ok)
		}
	}
}

// stringsOver returns all strings of at most size bytes of signs.
func stringsOver(signs string, size int) []string {
	list := []string{""}
	for first := 0; size > 0; size-- {
		last := len(list)
		for _, s := range list[first:last] {
			for i := range len(signs) {
				list = append(list, s+signs[i:i+1])
			}
		}
		first = last
	}
	return list
}

// expectedChecksum returns the checksum of s as a sum of powers, so that it is computed in
// another way than by the program.
func expectedChecksum(s string) int {
	sum, power := 0, 1
	for i := len(s) - 1; i >= 0; i-- {
		sum = (sum + power*(int(s[i])+1)) % 999979
		power = power * 41 % 999979
	}
	return (sum + 7*power) % 999979
}

// stringWithDigits returns a string of size bytes whose checksum has this number of digits.
func stringWithDigits(t *testing.T, size int, digits int) string {
	t.Helper()
	rest := strings.Repeat("a", size-2)
	for _, start := range stringsOver("abcdefghijklmnopqrstuvwxyz", 2) {
		s := start + rest
		if len(s) == size && len(strconv.Itoa(expectedChecksum(s))) == digits {
			return s
		}
	}
	t.Fatal("no string of", size, "bytes with a checksum of", digits, "digits")
	return ""
}
