package tests

import (
	"math/rand"
	"regexp"
	"strings"
	"testing"

	"loop.example/g01135/impl"
)

func TestSampleText(t *testing.T) {
	for _, c := range []struct {
		s    impl.Sample
		want string
	}{
		{impl.Sample{}, "none"},
		{impl.Sample{Points: [][]int{}, Labels: []int{}}, "none"},
		{sampleOf([]int{1, -1, 1}, []int{1, 2}, []int{3, 0}, []int{-1, 1}), "+1,2 -3,0 +-1,1"},
		{sampleOf([]int{-1}, []int{-9}), "--9"},
		{sampleOf([]int{1}, []int{0}), "+0"},
		{sampleOf([]int{-1, 1}, []int{0}, []int{0}), "-0 +0"},
		{sampleOf([]int{1}, []int{9, -9, 0, 5}), "+9,-9,0,5"},
		{sampleOf([]int{-1}, []int{-1, -2, -3}), "--1,-2,-3"},
		{repeated(16, -1, -9, -9, -9, -9), strings.Repeat("--9,-9,-9,-9 ", 15) + "--9,-9,-9,-9"},
	} {
		if text, ok := impl.SampleText(c.s); !ok || text != c.want {
			t.Errorf("SampleText(%v) = %q, %v", c.s, text, ok)
		}
		if s, ok := impl.ParseSample(c.want); !ok || !sameText(s, c.s) {
			t.Errorf("ParseSample(%q) = %v, %v", c.want, s, ok)
		}
	}
}

func TestSampleTextsRoundTrip(t *testing.T) {
	r := rand.New(rand.NewSource(10))
	for d := 1; d <= 4; d++ {
		for n := 0; n <= 16; n++ {
			for range 20 {
				s := randomSample(r, n, d, 9)
				text, one := impl.SampleText(s)
				back, two := impl.ParseSample(text)
				if !one || !two || !sameText(back, s) || len(back.Points) != n || !isSampleText(text) {
					t.Fatalf("%v: %q, %v; %v, %v", s, text, one, back, two)
				}
			}
		}
	}
}

var pointText = regexp.MustCompile(`^[+-](0|-?[1-9])(,(0|-?[1-9])){0,3}$`)

// isSampleText tells apart from the program whether a text is that of a Sample.
func isSampleText(text string) bool {
	if text == "none" {
		return true
	}
	words := strings.Split(text, " ")
	for _, word := range words {
		if !pointText.MatchString(word) || strings.Count(word, ",") != strings.Count(words[0], ",") {
			return false
		}
	}
	return len(words) <= 16
}

// checkParse tests that a text is read exactly if it is the text of a Sample, and as this one.
func checkParse(t *testing.T, text string) bool {
	t.Helper()
	s, ok := impl.ParseSample(text)
	if ok != isSampleText(text) {
		t.Fatalf("ParseSample(%.300q) = %v, %v", text, s, ok)
	}
	if !ok {
		if !sameText(s, impl.Sample{}) {
			t.Fatalf("ParseSample(%.300q) = %v, %v", text, s, ok)
		}
		return false
	}
	if back, fine := impl.SampleText(s); !fine || back != text {
		t.Fatalf("ParseSample(%.300q) = %v, whose text is %q", text, s, back)
	}
	return true
}

func TestParseSampleFails(t *testing.T) {
	for _, text := range []string{
		"", " ", "  ", "+", "-", "++", "--", "None", "NONE", "none ", " none", "nonee", "non", "none none",
		"+1 none", "none +1", "none\n", "1", "1,2", "0", "+01", "+00", "+-0", "--0", "-00", "+-01", "+1,02",
		"+1,-0", "++1", "+1,+2", "+--1", "---1", "- 1", "+ 1", "+1,,2", "+,1", "+1,", "+,", "+1,2,", "+1, 2",
		"+1 ,2", "+1  -2", " +1", "+1 ", "+1 -2 ", " +1 -2", "+1-2", "+1+2", "+1,2-3,4", "+1\t-2", "+1\n-2",
		"+1,2\n", "+1;2", "+1.0", "+1e0", "+0x1", "+a", "a1", "*1", "+1 2", "+1 2,3", "+1,2 3,4", "+10",
		"+-10", "-10", "--10", "+1,10", "+99", "+1000000", "+99999999999999999999", "+18446744073709551617",
		"+1,2,3,4,5", "+1 -1,2", "+1,2 -1", "+1,2 -1,2,3", "+1,2 -1,2 +3", "+\uff11", "\u22121", "+1\x00",
		"\x00", "+1 \x00", "\xff", "+1,2;-3,0", strings.Repeat("+1 ", 17), strings.Repeat("+1 ", 16),
		strings.Repeat("+1 ", 16) + "+1", strings.Repeat("+1 ", 1333) + "+1", strings.Repeat("+1 ", 40000) + "+1",
		strings.Repeat(" ", 4000), strings.Repeat(",", 4000), "+" + strings.Repeat("1,", 100000) + "1",
		"+" + strings.Repeat("0", 3999), strings.Repeat("+", 4000), strings.Repeat("-", 4001), "none" + strings.Repeat(" ", 4000),
	} {
		if s, ok := impl.ParseSample(text); ok || !sameText(s, impl.Sample{}) {
			t.Errorf("ParseSample(%.100q) = %v, %v", text, s, ok)
		}
		checkParse(t, text)
	}
	if !checkParse(t, strings.Repeat("+1 ", 15)+"+1") {
		t.Error("a text of MaxPoints points")
	}
}

// All short texts of the bytes that texts of Samples have.
func TestParseSampleOfShortTexts(t *testing.T) {
	accepted := 0
	for _, text := range textsUpTo("+-01, ", 6) {
		if checkParse(t, text) {
			accepted++
		}
	}
	if accepted < 50 {
		t.Error("only", accepted, "texts were accepted")
	}
	for _, text := range textsUpTo("none ", 5) {
		checkParse(t, text)
	}
}

// Texts with one byte changed, left out or doubled.
func TestParseSampleOfChangedTexts(t *testing.T) {
	for _, text := range []string{"none", "+1,2 -3,0 +-1,1", "--9", "+0,-5,9,1 -0,0,0,0", strings.Repeat("-1 ", 15) + "+2"} {
		checkParse(t, text)
		for i := range len(text) {
			checkParse(t, text[:i]+text[i+1:])
			checkParse(t, text[:i]+text[i:i+1]+text[i:])
			for b := range 256 {
				checkParse(t, changedAt(text, i, byte(b)))
				checkParse(t, text[:i]+string([]byte{byte(b)})+text[i:])
			}
		}
	}
}
