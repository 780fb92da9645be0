package tests

import (
	"math"
	"math/rand"
	"slices"
	"strings"
	"testing"

	"loop.example/g01135/impl"
)

// stringsForAll returns texts of all kinds, among them random ones that are the same each time.
func stringsForAll() []string {
	list := []string{
		"", "a", ",", "#", "##", "-", "-0", "01", "1000000", "a#385", "a#384", "\x00", "\xff\xfe",
		"\u00e9", everyByte(), strings.Repeat("a", 4000), strings.Repeat("a", 4001),
		strings.Repeat(",", 4001), strings.Repeat("9", 100000),
	}
	r := rand.New(rand.NewSource(1))
	for range 200 {
		b := make([]byte, r.Intn(30))
		for i := range b {
			b[i] = "-019a#,; \n\x00\xff"[r.Intn(12)]
		}
		list = append(list, string(b))
	}
	return list
}

// Promise 13: each function of one text returns, the same each time, and zero values with false.
func TestFunctionsOfOneTextAreTotal(t *testing.T) {
	for _, s := range stringsForAll() {
		mustReturn(t, "ParseInt", func() {
			n, ok := impl.ParseInt(s)
			again, fine := impl.ParseInt(s)
			if n != again || ok != fine || !ok && n != 0 {
				t.Errorf("ParseInt(%.20q) = %d, %v", s, n, ok)
			}
		})
		mustReturn(t, "Checksum", func() {
			n, ok := impl.Checksum(s)
			again, fine := impl.Checksum(s)
			if n != again || ok != fine || !ok && n != 0 {
				t.Errorf("Checksum(%.20q) = %d, %v", s, n, ok)
			}
		})
		for _, f := range []func(string) (string, bool){impl.AppendChecksum, impl.VerifyChecksum} {
			mustReturn(t, "AppendChecksum or VerifyChecksum", func() {
				x, ok := f(s)
				again, fine := f(s)
				if x != again || ok != fine || !ok && x != "" {
					t.Errorf("%.20q: %.20q, %v", s, x, ok)
				}
			})
		}
	}
}

// Promise 13, for the functions of two texts.
func TestFunctionsOfTwoTextsAreTotal(t *testing.T) {
	list := stringsForAll()
	for _, a := range list {
		for _, b := range list {
			mustReturn(t, "LessString", func() {
				if impl.LessString(a, b) && impl.LessString(b, a) {
					t.Errorf("%.20q and %.20q are both less", a, b)
				}
			})
			mustReturn(t, "SplitString", func() {
				l, ok := impl.SplitString(a, b)
				again, fine := impl.SplitString(a, b)
				if !slices.Equal(l, again) || ok != fine || ok != (len(l) > 0) {
					t.Errorf("SplitString(%.20q, %.20q) has %d elements, %v", a, b, len(l), ok)
				}
			})
			mustReturn(t, "JoinStrings", func() {
				s, ok := impl.JoinStrings([]string{a, b}, ",")
				again, fine := impl.JoinStrings([]string{a, b}, ",")
				if s != again || ok != fine || !ok && s != "" {
					t.Errorf("JoinStrings(%.20q, %.20q) has %d bytes, %v", a, b, len(s), ok)
				}
			})
		}
	}
}

// Promise 13, for FormatInt and the numbers around all powers of 2.
func TestFormatIntIsTotal(t *testing.T) {
	for shift := range 64 {
		for d := -2; d <= 2; d++ {
			for _, n := range []int{1<<shift + d, -1<<shift + d, math.MaxInt + d} {
				mustReturn(t, "FormatInt", func() {
					s, ok := impl.FormatInt(n)
					if ok != (n >= -999999 && n <= 999999) || ok != (s != "") {
						t.Errorf("FormatInt(%d) = %q, %v", n, s, ok)
					}
				})
			}
		}
	}
}

// Promise 13: JoinStrings writes neither to its list nor behind it, whether it fails or not.
func TestJoinStringsKeepsItsList(t *testing.T) {
	for _, whole := range [][]string{
		{"b", "a", "", "rest"}, {"b", "a;", "c", "rest"}, {"b", strings.Repeat("a", 5000), "c", "rest"},
	} {
		for n := range len(whole) {
			parts := whole[:n]
			before := copyWithRest(parts)
			for _, sep := range []string{";", "", ";;"} {
				impl.JoinStrings(parts, sep)
				if !slices.Equal(copyWithRest(parts), before) {
					t.Errorf("JoinStrings changes %.40q", before)
				}
			}
		}
	}
}

// Results of two calls share no memory.
func TestSplitStringGivesNewLists(t *testing.T) {
	for _, s := range []string{"", "a", "a,b,c", "x,,"} {
		first, _ := impl.SplitString(s, ",")
		kept := slices.Clone(first)
		second, _ := impl.SplitString(s, ",")
		for i := range second {
			second[i] = "other"
		}
		if !slices.Equal(first, kept) {
			t.Errorf("SplitString(%q) shares its result: %q", s, first)
		}
		third, ok := impl.SplitString(s, ",")
		if !ok || !slices.Equal(third, kept) {
			t.Errorf("SplitString(%q) keeps a result: %q", s, third)
		}
	}
}
