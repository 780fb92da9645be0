package tests

import (
	"math"
	"math/rand"
	"slices"
	"testing"

	"loop.example/g01135/impl"
)

func TestShattersSet(t *testing.T) {
	for _, c := range []struct {
		class string
		set   []int
		want  bool
	}{
		{"", nil, true}, {"+", nil, true}, {"+", []int{0}, false}, {"-", []int{0}, false}, {"- +", []int{0}, true}, {"- +", nil, true},
		{"-- -+ ++", []int{0}, true}, {"-- -+ ++", []int{1}, true}, {"-- -+ ++", []int{0, 1}, false}, {"-- -+ +- ++", []int{0, 1}, true},
		{"-- ++", []int{0}, true}, {"-- ++", []int{1}, true}, {"-- ++", []int{0, 1}, false}, {"-- -+", []int{0}, false}, {"-- -+", []int{1}, true}, {"+- ++", []int{0}, false},
		{"--- -++ +-+ ++-", []int{0, 1}, true}, {"--- -++ +-+ ++-", []int{0, 2}, true}, {"--- -++ +-+ ++-", []int{1, 2}, true}, {"--- -++ +-+ ++-", []int{0, 1, 2}, false},
		{"--- --+ -+- -++ +-- +-+ ++-", []int{0, 1, 2}, false}, {"--+ -+- -++ +-- +-+ ++- +++", []int{0, 1, 2}, false},
	} {
		if shatters, ok := impl.ShattersSet(classOfText(c.class), c.set); !ok || shatters != c.want {
			t.Errorf("%s, %v: %v, %v", c.class, c.set, shatters, ok)
		}
	}
	for _, set := range notSets() {
		if shatters, ok := impl.ShattersSet(labelsOf(3), set); ok || shatters {
			t.Errorf("%v: %v, %v", set, shatters, ok)
		}
	}
}

func TestShatteredSets(t *testing.T) {
	for _, c := range []struct {
		class string
		want  [][]int
	}{
		{"", [][]int{{}}}, {"-", [][]int{{}}}, {"+", [][]int{{}}}, {"- +", [][]int{{}, {0}}}, {"-+-", [][]int{{}}},
		{"-- -+ ++", [][]int{{}, {0}, {1}}}, {"-- -+", [][]int{{}, {1}}}, {"-- +-", [][]int{{}, {0}}}, {"-- ++", [][]int{{}, {0}, {1}}},
		{"-- -+ +- ++", [][]int{{}, {0}, {1}, {0, 1}}}, {"--- -++ +-+ ++-", [][]int{{}, {0}, {1}, {2}, {0, 1}, {0, 2}, {1, 2}}},
		{"--- --+ -+- -++ +-- +-+ ++- +++", [][]int{{}, {0}, {1}, {2}, {0, 1}, {0, 2}, {1, 2}, {0, 1, 2}}},
		{"--- --+ -+- -++ +--", [][]int{{}, {0}, {1}, {2}, {1, 2}}}, {"+--- +--+ ++-- ++-+", [][]int{{}, {1}, {3}, {1, 3}}},
	} {
		if sets, ok := impl.ShatteredSets(classOfText(c.class)); !ok || !sameText(sets, c.want) {
			t.Errorf("%s: %v, %v", c.class, sets, ok)
		}
	}
	if sets, ok := impl.ShatteredSets(labelsOf(8)); !ok || !sameText(sets, setsOf(8, 8)) {
		t.Errorf("all lists: %d sets, %v", len(sets), ok)
	}
	if sets, ok := impl.ShatteredSets(labelsOf(8)[1:]); !ok || !sameText(sets, setsOf(8, 7)) {
		t.Errorf("all lists but one: %d sets, %v", len(sets), ok)
	}
	if sets, ok := impl.ShatteredSets(fewOnes(8, 3)); !ok || !sameText(sets, setsOf(8, 3)) {
		t.Errorf("all lists with few ones: %d sets, %v", len(sets), ok)
	}
}

// The sets that a class shatters are those of the document, in its order, and at least as many as
// hypotheses; the Vapnik number is the greatest number of their places; and no class has more
// hypotheses than SauerBound for it.
func TestShatteredSetsAreThoseOfTheDocument(t *testing.T) {
	tight := 0
	eachClass(410, func(class [][]int) {
		want := shatteredBy(class)
		sets, ok := impl.ShatteredSets(class)
		if !ok || !sameText(sets, want) || len(sets) < len(class) {
			t.Fatalf("%v: %v, %v", class, sets, ok)
		}
		number, one := impl.VapnikNumber(class)
		if !one || number != len(want[len(want)-1]) {
			t.Fatalf("%v: %d, %v", class, number, one)
		}
		bound, two := impl.SauerBound(len(class[0]), number)
		if !two || len(class) > bound {
			t.Fatalf("%v: %d hypotheses, and the bound is %d, %v", class, len(class), bound, two)
		}
		if len(class) == bound {
			tight++
		}
		for _, set := range setsOfPlaces(class) {
			in := slices.ContainsFunc(want, func(other []int) bool { return slices.Equal(other, set) })
			if shatters, ok := impl.ShattersSet(class, set); !ok || shatters != in {
				t.Fatalf("%v, %v: %v, %v", class, set, shatters, ok)
			}
		}
	})
	if tight < 50 {
		t.Error("the bound is met by", tight)
	}
}

func TestVapnikNumber(t *testing.T) {
	for _, c := range []struct {
		class string
		want  int
	}{
		{"", 0}, {"-", 0}, {"+-+", 0}, {"- +", 1}, {"-- -+ ++", 1}, {"-- ++", 1}, {"-- -+ +- ++", 2}, {"--- -++ +-+ ++-", 2}, {"--- ---", -1},
		{"--- --+ -+- +--", 1}, {"--- --+ -+- -++", 2}, {"--- --+ -+- -++ +-- +-+ ++- +++", 3}, {"----+-- -+--+-- -+-++-- +---+-- ++--+--", 2},
	} {
		if number, ok := impl.VapnikNumber(classOfText(c.class)); ok != (c.want >= 0) || number != max(c.want, 0) {
			t.Errorf("%s: %d, %v", c.class, number, ok)
		}
	}
	for m := range 9 {
		for d := range m + 1 {
			class := fewOnes(m, d)
			number, one := impl.VapnikNumber(class)
			bound, two := impl.SauerBound(m, d)
			if !one || number != d || !two || bound != len(class) {
				t.Errorf("at most %d ones of %d: %d, %v; %d hypotheses, and the bound %d, %v", d, m, number, one, len(class), bound, two)
			}
		}
		if number, ok := impl.VapnikNumber(chainOf(m)); !ok || number != min(m, 1) {
			t.Errorf("a chain of %d: %d, %v", m, number, ok)
		}
	}
}

func TestSauerBound(t *testing.T) {
	// The rows are for m, the columns for d.
	rows := [][]int{
		{1, 1, 1, 1, 1, 1, 1, 1, 1}, {1, 2, 2, 2, 2, 2, 2, 2, 2}, {1, 3, 4, 4, 4, 4, 4, 4, 4}, {1, 4, 7, 8, 8, 8, 8, 8, 8},
		{1, 5, 11, 15, 16, 16, 16, 16, 16}, {1, 6, 16, 26, 31, 32, 32, 32, 32}, {1, 7, 22, 42, 57, 63, 64, 64, 64},
		{1, 8, 29, 64, 99, 120, 127, 128, 128}, {1, 9, 37, 93, 163, 219, 247, 255, 256},
	}
	for m := -3; m <= 12; m++ {
		for d := -3; d <= 12; d++ {
			want, fine := 0, m >= 0 && m <= 8 && d >= 0 && d <= 8
			if fine {
				want = rows[m][d]
			}
			if bound, ok := impl.SauerBound(m, d); ok != fine || bound != want {
				t.Errorf("SauerBound(%d, %d) = %d, %v", m, d, bound, ok)
			}
			if fine && want != len(setsOf(m, d)) {
				t.Errorf("%d sets of at most %d of %d places", want, d, m)
			}
		}
	}
	for _, n := range []int{math.MinInt, math.MaxInt, 1 << 40, -1 << 40} {
		one, first := impl.SauerBound(n, 2)
		two, second := impl.SauerBound(2, n)
		if first || second || one != 0 || two != 0 {
			t.Errorf("%d: %d, %v; %d, %v", n, one, first, two, second)
		}
	}
}

// A class with more hypotheses shatters the same sets and perhaps more, and one with other labels
// at a place the same ones.
func TestShatteredSetsAreKept(t *testing.T) {
	r := rand.New(rand.NewSource(411))
	eachClass(412, func(class [][]int) {
		sets, _ := impl.ShatteredSets(class)
		part := slices.DeleteFunc(slices.Clone(class), func(labels []int) bool { return len(class) > 1 && r.Intn(4) == 0 })
		if len(part) > 0 {
			fewer, _ := impl.ShatteredSets(part)
			for _, set := range fewer {
				if !slices.ContainsFunc(sets, func(other []int) bool { return slices.Equal(other, set) }) {
					t.Fatalf("%v shatters %v, and %v does not", part, set, class)
				}
			}
		}
		turned := [][]int{}
		for _, labels := range class {
			other := slices.Clone(labels)
			if len(other) > 0 {
				other[len(other)/2] *= -1
			}
			turned = append(turned, other)
		}
		slices.SortFunc(turned, slices.Compare[[]int])
		if same, ok := impl.ShatteredSets(turned); !ok || !sameText(same, sets) {
			t.Fatalf("%v: %v, and %v: %v, %v", class, sets, turned, same, ok)
		}
	})
}
