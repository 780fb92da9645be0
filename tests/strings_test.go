package tests

import (
	"bytes"
	"math"
	"regexp"
	"slices"
	"strconv"
	"strings"
	"testing"

	"loop.example/g01135/impl"
)

func TestLimitsOfStrings(t *testing.T) {
	if impl.MaxString != 4000 || impl.MaxDecimal != 999999 {
		t.Error("limits", impl.MaxString, impl.MaxDecimal)
	}
}

// Promise 1: every number with a text comes back from it.
func TestNumbersRoundTrip(t *testing.T) {
	for n := -999999; n <= 999999; n++ {
		s, ok := impl.FormatInt(n)
		if !ok || s != strconv.Itoa(n) {
			t.Fatalf("FormatInt(%d) = %q, %v", n, s, ok)
		}
		if m, ok := impl.ParseInt(s); !ok || m != n {
			t.Fatalf("ParseInt(%q) = %d, %v", s, m, ok)
		}
	}
}

func TestNumbersInWords(t *testing.T) {
	for n, want := range map[int]string{
		0: "0", 1: "1", -1: "-1", 9: "9", 10: "10", -10: "-10", -12: "-12", 100: "100",
		999: "999", 1000: "1000", 999999: "999999", -999999: "-999999",
	} {
		if s, ok := impl.FormatInt(n); !ok || s != want {
			t.Errorf("FormatInt(%d) = %q, %v", n, s, ok)
		}
		if m, ok := impl.ParseInt(want); !ok || m != n {
			t.Errorf("ParseInt(%q) = %d, %v", want, m, ok)
		}
	}
}

func TestNumbersWithoutText(t *testing.T) {
	for _, n := range []int{
		1000000, -1000000, 1000001, -1000001, 9999999, math.MaxInt32, math.MinInt32,
		math.MaxInt, math.MinInt, math.MaxInt - 1, math.MinInt + 1, 1 << 32, -1 << 32,
	} {
		if s, ok := impl.FormatInt(n); ok || s != "" {
			t.Errorf("FormatInt(%d) = %q, %v", n, s, ok)
		}
	}
}

// The judge is a pattern, so that it shares nothing with the program.
func TestParseIntOfShortTexts(t *testing.T) {
	pattern := regexp.MustCompile(`^(0|-?[1-9][0-9]{0,5})$`)
	texts := textsUpTo("-+019 a", 5)
	texts = append(texts, textsUpTo("-09", 8)...)
	for _, s := range texts {
		n, ok := impl.ParseInt(s)
		want := 0
		if pattern.MatchString(s) {
			want, _ = strconv.Atoi(s)
		}
		if ok != pattern.MatchString(s) || n != want {
			t.Errorf("ParseInt(%q) = %d, %v", s, n, ok)
		}
	}
}

func TestTextsWithoutNumber(t *testing.T) {
	zeros := strings.Repeat("0", 100000)
	for _, s := range []string{
		"", "-", "+", "-0", "+0", "+1", "--1", "-+1", "00", "01", "-01", "007", "1-", "1-2",
		"1000000", "-1000000", "9999999", "1000000000", "9223372036854775807",
		"-9223372036854775808", "9223372036854775808", "18446744073709551616",
		"18446744073709551617", "-18446744073709551617", "4294967297", "1x", "x1", "0x1", "1_000",
		"1e3", "1.0", " 1", "1 ", "1\n", "\t1", "1\x00", "\x001", "\xff", "/", ":", "1/", "1:",
		"\u0661", "\uff11", "\u22121", "NaN", "Inf", zeros, zeros + "1", "1" + zeros, "-1" + zeros,
		strings.Repeat("9", 100000), strings.Repeat("-", 100000),
	} {
		if n, ok := impl.ParseInt(s); ok || n != 0 {
			t.Errorf("ParseInt(%.20q) = %d, %v", s, n, ok)
		}
	}
}

// Every byte that is no digit spoils a number, at every place.
func TestNumbersWithAStrangeByte(t *testing.T) {
	for b := range 256 {
		if b >= '0' && b <= '9' {
			continue
		}
		for i := range 3 {
			s := changedAt("123", i, byte(b))
			want := 0
			if b == '-' && i == 0 {
				want = -23
			}
			if n, ok := impl.ParseInt(s); n != want || ok != (want != 0) {
				t.Errorf("ParseInt(%q) = %d, %v", s, n, ok)
			}
		}
	}
}

func TestSplitString(t *testing.T) {
	for _, c := range []struct {
		s, sep string
		want   []string
	}{
		{"a,,b", ",", []string{"a", "", "b"}},
		{"", ",", []string{""}},
		{",", ",", []string{"", ""}},
		{",,", ",", []string{"", "", ""}},
		{",a", ",", []string{"", "a"}},
		{"a,", ",", []string{"a", ""}},
		{",a,", ",", []string{"", "a", ""}},
		{"abc", ",", []string{"abc"}},
		{"a;b,c", ",", []string{"a;b", "c"}},
		{"a b  c", " ", []string{"a", "b", "", "c"}},
		{"one\ntwo\n", "\n", []string{"one", "two", ""}},
		{"a\x00b", "\x00", []string{"a", "b"}},
		{"aXbxc", "x", []string{"aXb", "c"}},
		{"\xc3\xa9\xa9", "\xa9", []string{"\xc3", "", ""}},
		{"a\xffb", "\xff", []string{"a", "b"}},
		{"a\xfeb", "\xff", []string{"a\xfeb"}},
		{"\u00e9,\u20ac", ",", []string{"\u00e9", "\u20ac"}},
	} {
		if l, ok := impl.SplitString(c.s, c.sep); !ok || !slices.Equal(l, c.want) {
			t.Errorf("SplitString(%q, %q) = %q, %v", c.s, c.sep, l, ok)
		}
		if s, ok := impl.JoinStrings(c.want, c.sep); !ok || s != c.s {
			t.Errorf("JoinStrings(%q, %q) = %q, %v", c.want, c.sep, s, ok)
		}
	}
}

func TestSplitStringFails(t *testing.T) {
	for _, c := range []struct{ s, sep string }{
		{"a,b", ""}, {"a,b", ",,"}, {"", ""}, {"", ",,"}, {"a,,b", ",,"}, {"a,b", ",b"},
		{"a\u00e9b", "\u00e9"}, {"a\u20acb", "\u20ac"}, {"a", strings.Repeat(",", 5000)},
		{strings.Repeat("a", 4001), ","}, {strings.Repeat(",", 4001), ","},
		{strings.Repeat("a", 4001), ""}, {strings.Repeat("ab,", 100000), ","},
	} {
		if l, ok := impl.SplitString(c.s, c.sep); ok || len(l) != 0 {
			t.Errorf("SplitString(%.20q, %.20q) has %d elements, %v", c.s, c.sep, len(l), ok)
		}
	}
}

func TestSplitStringOfGreatestLength(t *testing.T) {
	if l, ok := impl.SplitString(strings.Repeat("a", 4000), ","); !ok || len(l) != 1 || len(l[0]) != 4000 {
		t.Error("no separator", len(l), ok)
	}
	if l, ok := impl.SplitString(strings.Repeat(",", 4000), ","); !ok || len(l) != 4001 || strings.Join(l, "") != "" {
		t.Error("only separators", len(l), ok)
	}
	l, ok := impl.SplitString(strings.Repeat("ab,c", 1000), ",")
	if !ok || len(l) != 1001 || l[0] != "ab" || l[1] != "cab" || l[1000] != "c" {
		t.Error("many elements", len(l), ok)
	}
}

// Promise 1: what was split is the same when joined, for all short texts and all separators.
func TestSplittingRoundTrips(t *testing.T) {
	for _, s := range textsUpTo(",a;", 7) {
		for _, sep := range []string{",", "a", ";", "x"} {
			checkSplit(t, s, sep)
		}
	}
	every := make([]byte, 0, 1024)
	for i := range 1024 {
		every = append(every, byte(i*7))
	}
	for b := range 256 {
		sep := string([]byte{byte(b)})
		checkSplit(t, string(every), sep)
		checkSplit(t, sep+string(every)+sep, sep)
		checkSplit(t, sep, sep)
	}
}

func checkSplit(t *testing.T, s, sep string) {
	t.Helper()
	l, ok := impl.SplitString(s, sep)
	if !ok || len(l) != bytes.Count([]byte(s), []byte(sep))+1 {
		t.Fatalf("SplitString(%q, %q) = %q, %v", s, sep, l, ok)
	}
	for _, part := range l {
		if strings.Contains(part, sep) {
			t.Fatalf("SplitString(%q, %q) has the element %q", s, sep, part)
		}
	}
	if back, ok := impl.JoinStrings(l, sep); !ok || back != s {
		t.Fatalf("JoinStrings(%q, %q) = %q, %v, not %q", l, sep, back, ok, s)
	}
}

// Promise 1, the other way: what was joined is the same when split.
func TestJoiningRoundTrips(t *testing.T) {
	pieces := []string{"", "a", "bb", ",", "a,", ",a", "b,b", ";"}
	for _, one := range pieces {
		for _, two := range pieces {
			for _, three := range pieces {
				checkJoin(t, []string{one})
				checkJoin(t, []string{one, two})
				checkJoin(t, []string{one, two, three})
			}
		}
	}
}

func checkJoin(t *testing.T, parts []string) {
	t.Helper()
	s, ok := impl.JoinStrings(parts, ",")
	if slices.ContainsFunc(parts, func(p string) bool { return strings.Contains(p, ",") }) {
		if ok || s != "" {
			t.Fatalf("JoinStrings(%q) = %q, %v", parts, s, ok)
		}
		return
	}
	back, fine := impl.SplitString(s, ",")
	if !ok || !fine || !slices.Equal(back, parts) {
		t.Fatalf("JoinStrings(%q) = %q, %v", parts, s, ok)
	}
}

func TestJoinStringsFails(t *testing.T) {
	for _, c := range []struct {
		parts []string
		sep   string
	}{
		{nil, ";"}, {[]string{}, ";"}, {nil, ""}, {[]string{"a"}, ""}, {[]string{"a", "b"}, ""},
		{[]string{"a"}, ";;"}, {[]string{"a", "b"}, ", "}, {[]string{"a"}, "\u00e9"},
		{[]string{";"}, ";"}, {[]string{"a;b"}, ";"}, {[]string{"a", ";b"}, ";"},
		{[]string{"a", "b", "c;"}, ";"}, {[]string{"a", "b;b", "c"}, ";"},
		{[]string{"\u00e9"}, "\xa9"}, {[]string{"a", "\xff"}, "\xff"}, {[]string{"\x00"}, "\x00"},
	} {
		if s, ok := impl.JoinStrings(c.parts, c.sep); ok || s != "" {
			t.Errorf("JoinStrings(%q, %q) = %q, %v", c.parts, c.sep, s, ok)
		}
	}
}

func TestJoinStringsOfGreatestLength(t *testing.T) {
	a := func(n int) string { return strings.Repeat("a", n) }
	for _, c := range []struct {
		parts []string
		ok    bool
	}{
		{[]string{a(4000)}, true},
		{[]string{a(4001)}, false},
		{[]string{a(3999), ""}, true},
		{[]string{a(4000), ""}, false},
		{[]string{"", a(3999)}, true},
		{[]string{"", a(4000)}, false},
		{[]string{a(2000), a(1999)}, true},
		{[]string{a(2000), a(2000)}, false},
		{[]string{a(1332), a(1333), a(1333)}, true},
		{[]string{a(1333), a(1333), a(1333)}, false},
		{[]string{a(100000), a(100000)}, false},
		{make([]string, 4001), true},
		{make([]string, 4002), false},
		{make([]string, 1000000), false},
	} {
		s, ok := impl.JoinStrings(c.parts, ",")
		want := ""
		if c.ok {
			want = strings.Join(c.parts, ",")
		}
		if ok != c.ok || s != want {
			t.Errorf("%d elements, the first of %d bytes: %d bytes, %v", len(c.parts), len(c.parts[0]), len(s), ok)
		}
	}
}

func TestLessString(t *testing.T) {
	ascending := []string{
		"", "\x00", "\x00\x00", "\x00a", " ", "#", "-1", "0", "00", "1", "10", "2", "A", "Z", "a",
		"a\x00", "aa", "ab", "b", "ba", "z", "\x7f", "\x80", "\u00e9", "\xff", "\xff\xff",
	}
	for i, a := range ascending {
		for j, b := range ascending {
			if impl.LessString(a, b) != (i < j) {
				t.Errorf("LessString(%q, %q) = %v", a, b, i >= j)
			}
		}
	}
}

func TestLessStringOfShortAndLongTexts(t *testing.T) {
	texts := textsUpTo("\x00a\xff", 4)
	long := strings.Repeat("a", 100000)
	texts = append(texts, long, long+"a", long+"b", long[1:]+"b")
	for _, a := range texts {
		for _, b := range texts {
			if impl.LessString(a, b) != (bytes.Compare([]byte(a), []byte(b)) < 0) {
				t.Errorf("LessString of %.20q and %.20q, with %d and %d bytes", a, b, len(a), len(b))
			}
		}
	}
}
