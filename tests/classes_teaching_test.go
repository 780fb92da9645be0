package tests

import (
	"math"
	"math/rand"
	"slices"
	"testing"

	"loop.example/g01135/impl"
)

func TestTeachingSet(t *testing.T) {
	for _, c := range []struct {
		class string
		sets  [][]int // for each hypothesis
	}{
		{"", [][]int{{}}}, {"-", [][]int{{}}}, {"+-+-", [][]int{{}}}, {"- +", [][]int{{0}, {0}}},
		{"-- -+ ++", [][]int{{1}, {0, 1}, {0}}}, {"-- ++", [][]int{{0}, {0}}}, {"+- ++", [][]int{{1}, {1}}}, {"-- -+ +- ++", [][]int{{0, 1}, {0, 1}, {0, 1}, {0, 1}}},
		{"--- --+ -+- +--", [][]int{{0, 1, 2}, {2}, {1}, {0}}}, {"--- -++ +-+ ++-", [][]int{{0, 1}, {0, 1}, {0, 1}, {0, 1}}},
		// A set of one place comes before one of two, and of these the lexicographically first one.
		{"--- --+ -+-", [][]int{{1, 2}, {2}, {1}}}, {"-++ +-+ ++- +++", [][]int{{0}, {1}, {2}, {0, 1, 2}}}, {"--+ -+- -++ +-- +++", [][]int{{0, 1}, {0, 2}, {0, 1, 2}, {0, 1}, {0, 1}}},
		{"---+ --+- -+-- +---", [][]int{{3}, {2}, {1}, {0}}}, {"---- --++ -+-+ -++-", [][]int{{1, 2}, {1, 2}, {1, 2}, {1, 2}}},
	} {
		class := classOfText(c.class)
		for i := range class {
			want := teachingSetBy(class, i)
			if set, ok := impl.TeachingSet(class, i); !ok || !slices.Equal(set, want) || c.sets[i] != nil && !slices.Equal(set, c.sets[i]) {
				t.Errorf("%s, %d: %v, %v, not %v and %v", c.class, i, set, ok, want, c.sets[i])
			}
		}
		for _, i := range []int{-1, len(class), len(class) + 1, 256, math.MinInt, math.MaxInt} {
			if set, ok := impl.TeachingSet(class, i); ok || len(set) != 0 {
				t.Errorf("%s, %d: %v, %v", c.class, i, set, ok)
			}
		}
	}
}

// The first set that teaches each hypothesis is that of the document; the teaching number is that
// of the greatest one.
func TestTeachingSetsAreThoseOfTheDocument(t *testing.T) {
	r := rand.New(rand.NewSource(420))
	eachClass(421, func(class [][]int) {
		greatest := 0
		for i := range class {
			set, ok := impl.TeachingSet(class, i)
			if !ok {
				t.Fatalf("%v, %d: %v, %v", class, i, set, ok)
			}
			greatest = max(greatest, len(set))
			if len(class) > 20 && r.Intn(len(class)) > 8 {
				continue // the document's way is slow for many
			}
			if want := teachingSetBy(class, i); !slices.Equal(set, want) {
				t.Fatalf("%v, %d: %v, not %v", class, i, set, want)
			}
		}
		if number, ok := impl.TeachingNumber(class); !ok || number != greatest {
			t.Fatalf("%v: %d, %v, not %d", class, number, ok, greatest)
		}
	})
}

func TestTeachingNumber(t *testing.T) {
	for _, c := range []struct {
		class string
		want  int
	}{
		{"", 0}, {"-", 0}, {"+-+-", 0}, {"- +", 1}, {"-- ++", 1}, {"-- -+ ++", 2}, {"--- --+ -+- +--", 3}, {"---+ --+- -+-- +---", 1}, {"--- -++ +-+ ++-", 2},
		{"-++ +-+ ++- +++", 3},
	} {
		if number, ok := impl.TeachingNumber(classOfText(c.class)); !ok || number != c.want {
			t.Errorf("%s: %d, %v", c.class, number, ok)
		}
	}
	for m := range 9 {
		all, one := impl.TeachingNumber(labelsOf(m))
		few, two := impl.TeachingNumber(fewOnes(m, 1))
		chain, three := impl.TeachingNumber(chainOf(m))
		if !one || all != m || !two || few != m || !three || chain != min(m, 2) {
			t.Errorf("%d places: %d, %v; %d, %v; %d, %v", m, all, one, few, two, chain, three)
		}
	}
}

func TestVersionOf(t *testing.T) {
	for _, c := range []struct {
		class  string
		set    []int
		labels string
		want   []int
	}{
		{"", nil, "", []int{0}}, {"-", nil, "", []int{0}}, {"-- -+ ++", nil, "", []int{0, 1, 2}},
		{"-", []int{0}, "-", []int{0}}, {"-", []int{0}, "+", nil},
		{"-- -+ ++", []int{0}, "-", []int{0, 1}}, {"-- -+ ++", []int{0}, "+", []int{2}}, {"-- -+ ++", []int{1}, "-", []int{0}}, {"-- -+ ++", []int{1}, "+", []int{1, 2}},
		{"-- -+ ++", []int{0, 1}, "--", []int{0}}, {"-- -+ ++", []int{0, 1}, "-+", []int{1}}, {"-- -+ ++", []int{0, 1}, "++", []int{2}},
		{"-- -+ ++", []int{0, 1}, "+-", nil}, {"-++ +-- +-+", []int{0, 2}, "++", []int{2}}, {"-++ +-- +-+", []int{1, 2}, "-+", []int{2}},
		{"-++ +-- +-+", []int{2}, "+", []int{0, 2}}, {"-+- -++ ++-", []int{1}, "-", nil}, {"-+- -++ ++-", []int{1}, "+", []int{0, 1, 2}},
	} {
		if version, ok := impl.VersionOf(classOfText(c.class), c.set, labelsOfText(c.labels)); !ok || !slices.Equal(version, c.want) {
			t.Errorf("%s, %v, %s: %v, %v", c.class, c.set, c.labels, version, ok)
		}
	}
	class := classOfText("--- -++ ++-")
	for _, labels := range [][]int{
		nil, {}, {1}, {-1}, {-1, -1, -1}, {1, 1, 1, 1}, {0, 1}, {1, 0}, {2, 1}, {-1, 2}, {-2, -1}, {1, -2}, {math.MinInt, 1}, {-1, math.MaxInt}, make([]int, 2), make([]int, 100),
	} {
		if version, ok := impl.VersionOf(class, []int{0, 2}, labels); ok || len(version) != 0 {
			t.Errorf("%v: %v, %v", labels, version, ok)
		}
	}
	for _, set := range notSets() {
		if version, ok := impl.VersionOf(class, set, slices.Repeat([]int{1}, len(set))); ok || len(version) != 0 {
			t.Errorf("%v: %v, %v", set, version, ok)
		}
	}
}

// The hypotheses with all labels at all sets are those of the document. There are some exactly if
// these labels are a trace, and for a teaching set there is just that one.
func TestVersionsAreThoseOfTheDocument(t *testing.T) {
	check := func(class [][]int, set, labels []int) {
		t.Helper()
		version, ok := impl.VersionOf(class, set, labels)
		if !ok || !slices.Equal(version, versionBy(class, set, labels)) {
			t.Fatalf("%v, %v, %v: %v, %v", class, set, labels, version, ok)
		}
		traces, _ := impl.TracesOf(class, set)
		had := slices.ContainsFunc(traces, func(trace []int) bool { return slices.Equal(trace, labels) })
		if had != (len(version) > 0) {
			t.Fatalf("%v, %v, %v: %v, and the traces are %v", class, set, labels, version, traces)
		}
	}
	eachWholeClass(3, func(class [][]int) {
		for _, set := range setsOfPlaces(class) {
			for _, labels := range labelsOf(len(set)) {
				check(class, set, labels)
			}
		}
	})
	r := rand.New(rand.NewSource(422))
	eachClass(423, func(class [][]int) {
		sets := setsOfPlaces(class)
		for range 5 {
			set, i := sets[r.Intn(len(sets))], r.Intn(len(class))
			check(class, set, labelsBy(class[i], set))
			all := labelsOf(len(set))
			check(class, set, all[r.Intn(len(all))])
			teaching, _ := impl.TeachingSet(class, i)
			if version, ok := impl.VersionOf(class, teaching, labelsBy(class[i], teaching)); !ok || !slices.Equal(version, []int{i}) {
				t.Fatalf("%v, %v: %v, %v, not %d alone", class, teaching, version, ok, i)
			}
		}
	})
}
