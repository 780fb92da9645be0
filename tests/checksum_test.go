package tests

import (
	"strconv"
	"strings"
	"testing"

	"loop.example/g01135/impl"
)

// nextSum is the rule of the document for one byte.
func nextSum(h int, c byte) int { return (41*h + int(c) + 1) % 999979 }

func sumFrom(h int, s string) int {
	for i := range len(s) {
		h = nextSum(h, s[i])
	}
	return h
}

func everyByte() string {
	all := make([]byte, 256)
	for i := range all {
		all[i] = byte(i)
	}
	return string(all)
}

// The expected numbers were computed apart from the program.
func TestChecksum(t *testing.T) {
	for s, want := range map[string]int{
		"": 7, "a": 385, "ab": 15884, "ba": 15924, "abc": 651344, "\x00": 288, "\xff": 543,
		"#": 323, "\x00\x00\x00": 484170, "hello, world": 588687, "0 add 1 2@3": 814530,
		"The quick brown fox": 514521, everyByte(): 750103,
		strings.Repeat("\xff", 100): 463654, strings.Repeat("x", 4000): 185545,
	} {
		if n, ok := impl.Checksum(s); !ok || n != want {
			t.Errorf("Checksum(%.20q) = %d, %v, not %d", s, n, ok, want)
		}
	}
}

func TestChecksumIsUpdatedByEachByte(t *testing.T) {
	long := strings.Repeat(everyByte(), 16)[:4000]
	for n := 0; n <= 4000; n += 57 {
		for b := range 256 {
			s := long[:max(0, n-1)] + string([]byte{byte(b)})
			if got, ok := impl.Checksum(s); !ok || got != sumFrom(7, s) {
				t.Fatalf("%d bytes, the last %d: %d, %v", len(s), b, got, ok)
			}
		}
	}
}

func TestChecksumOfTooLongTexts(t *testing.T) {
	for _, n := range []int{4001, 4002, 8000, 1000000} {
		if h, ok := impl.Checksum(strings.Repeat("\x00", n)); ok || h != 0 {
			t.Errorf("%d bytes: %d, %v", n, h, ok)
		}
	}
	if h, ok := impl.Checksum(strings.Repeat("#", 4000)); !ok || h != sumFrom(7, strings.Repeat("#", 4000)) {
		t.Error("4000 bytes", h, ok)
	}
}

// checkSealed tests that s has the checksummed text that the document names, and that it comes
// back from it.
func checkSealed(t *testing.T, s string) string {
	t.Helper()
	want := s + "#" + strconv.Itoa(sumFrom(7, s))
	sealed, ok := impl.AppendChecksum(s)
	if !ok || sealed != want {
		t.Fatalf("AppendChecksum(%.20q), %d bytes: %d bytes, %v", s, len(s), len(sealed), ok)
	}
	if back, ok := impl.VerifyChecksum(sealed); !ok || back != s {
		t.Fatalf("VerifyChecksum(%.20q), %d bytes: %.20q, %v", sealed, len(sealed), back, ok)
	}
	return sealed
}

// Promise 1: each text comes back from its checksummed one.
func TestChecksummedTextsRoundTrip(t *testing.T) {
	for s, want := range map[string]string{"": "#7", "a": "a#385", "ab": "ab#15884", "abc": "abc#651344"} {
		if got := checkSealed(t, s); got != want {
			t.Errorf("AppendChecksum(%q) = %q", s, got)
		}
	}
	for _, s := range textsUpTo("\x00a \xff1-", 5) {
		checkSealed(t, s)
	}
	checkSealed(t, strings.ReplaceAll(everyByte(), "#", ""))
	for n := range 3994 {
		checkSealed(t, strings.Repeat("z", n))
	}
}

func TestAppendChecksumFails(t *testing.T) {
	for _, s := range []string{
		"#", "a#", "#a", "a#b", "##", "a#385", "#7", strings.Repeat("a", 3000) + "#",
		strings.Repeat("a", 4000), strings.Repeat("a", 4001), strings.Repeat("#", 4001),
		strings.Repeat("a", 3999), strings.Repeat("a", 1000000),
	} {
		if got, ok := impl.AppendChecksum(s); ok || got != "" {
			t.Errorf("AppendChecksum(%.20q), %d bytes: %d bytes, %v", s, len(s), len(got), ok)
		}
	}
}

// textWithDigits returns a text of a length, without the mark, whose checksum has as many
// digits as asked for. Its first changed byte varies fastest, as it moves the checksum most.
func textWithDigits(t *testing.T, length, digits int) string {
	t.Helper()
	start := strings.Repeat("a", length-4)
	h := sumFrom(7, start)
	for k := range 1 << 24 {
		end := string([]byte{byte(k), byte(k >> 8), byte(k >> 16), 'a'})
		if !strings.Contains(end, "#") && len(strconv.Itoa(sumFrom(h, end))) == digits {
			return start + end
		}
	}
	t.Fatal("no text with a checksum of", digits, "digits")
	return ""
}

// A checksummed text may have MaxString bytes, and no byte more, however long its checksum is.
func TestChecksummedTextsOfGreatestLength(t *testing.T) {
	for digits := 1; digits <= 6; digits++ {
		just := textWithDigits(t, 3999-digits, digits)
		if sealed := checkSealed(t, just); len(sealed) != 4000 {
			t.Error("length", len(sealed))
		}
		more := textWithDigits(t, 4000-digits, digits)
		if sealed, ok := impl.AppendChecksum(more); ok || sealed != "" {
			t.Errorf("%d bytes with a checksum of %d digits: %d bytes", len(more), digits, len(sealed))
		}
		long := more + "#" + strconv.Itoa(sumFrom(7, more))
		if s, ok := impl.VerifyChecksum(long); ok || s != "" {
			t.Errorf("VerifyChecksum of %d bytes: %d bytes", len(long), len(s))
		}
	}
}

func TestVerifyChecksumFails(t *testing.T) {
	long := strings.Repeat("a", 4001)
	for _, s := range []string{
		"", "a", "#", "##", "7", "385", "a385", "a#", "a#384", "a#386", "a#0385", "a#+385", "a#-385",
		"a# 385", "a#385 ", "a#385\n", "a#385#", "a#385#1", "a##385", "#a#385", "a#38", "a#3850",
		"a#1000364", "a#385.0", "a#x", "b#385", "A#385", "#0", "#8", "#07", "#-7", "#1000000", "#999986",
		"aa#385", "#385", "a#b#" + strconv.Itoa(sumFrom(7, "a#b")), "a#385a#385", "a#385@",
		long, long + "#" + strconv.Itoa(sumFrom(7, long)), "a#" + long, "#7" + long,
		strings.Repeat("#", 100000), "a#" + strings.Repeat("0", 100000) + "385",
	} {
		if got, ok := impl.VerifyChecksum(s); ok || got != "" {
			t.Errorf("VerifyChecksum(%.20q), %d bytes: %.20q, %v", s, len(s), got, ok)
		}
	}
}

// A text is verified just when the document's writer has it as a result.
func TestVerifyChecksumOfShortTexts(t *testing.T) {
	for _, s := range textsUpTo("a#7385", 6) {
		text, _, _ := strings.Cut(s, "#")
		valid := s == text+"#"+strconv.Itoa(sumFrom(7, text))
		want := ""
		if valid {
			want = text
		}
		if got, ok := impl.VerifyChecksum(s); ok != valid || got != want {
			t.Fatalf("VerifyChecksum(%q) = %q, %v", s, got, ok)
		}
	}
}

// Promise 1: every other byte at every place of a checksummed text is detected.
func TestEveryChangedByteIsDetected(t *testing.T) {
	for _, s := range []string{
		"", "a", "ab", "0 add 1 2 3@4", "385", "\x00\x00", "\xff\xfe", "aaaaaaaaaaaaaaaa",
		strings.ReplaceAll(everyByte(), "#", ""),
	} {
		sealed := checkSealed(t, s)
		for i := range len(sealed) {
			for b := range 256 {
				checkChange(t, sealed, i, byte(b))
			}
		}
	}
}

func TestChangedBytesOfALongTextAreDetected(t *testing.T) {
	sealed := checkSealed(t, textWithDigits(t, 3993, 6))
	for i := range len(sealed) {
		for _, b := range []byte{sealed[i] + 1, sealed[i] - 1, sealed[i] ^ 0x80, '#', '0'} {
			checkChange(t, sealed, i, b)
		}
	}
}

func checkChange(t *testing.T, sealed string, i int, b byte) {
	t.Helper()
	if sealed[i] == b {
		return
	}
	if s, ok := impl.VerifyChecksum(changedAt(sealed, i, b)); ok || s != "" {
		t.Fatalf("byte %d at %d of %.20q is not detected: %.20q, %v", b, i, sealed, s, ok)
	}
}
