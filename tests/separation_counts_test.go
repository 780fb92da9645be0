package tests

import (
	"math"
	"math/rand"
	"slices"
	"testing"

	"loop.example/g01135/impl"
)

// pointsOfText returns the points of the Sample with a text.
func pointsOfText(t *testing.T, text string) [][]int {
	t.Helper()
	return sampleOfText(t, text).Points
}

func TestCountPartings(t *testing.T) {
	for _, c := range []struct {
		text string
		want int
	}{
		{"none", 1}, {"+0", 2}, {"+9,9,9,9", 2}, {"+0 +1", 4}, {"+0 +0", 2}, {"+0 +0 +0", 2}, {"+0 +1 +2", 6}, {"+2 +0 +1", 6},
		{"+0 +1 +0", 4}, {"+0 +1 +2 +3", 8}, {"+0 +1 +2 +3 +4 +5 +6 +7", 16}, {"+0 +0 +0 +0 +0 +0 +0 +0", 2},
		{"+0,0 +1,1 +0,1 +1,0", 14}, {"+0,0 +1,0 +0,1", 8}, {"+0,0 +1,1 +2,2", 6}, {"+0,0 +4,0 +0,4 +1,1", 14},
		{"+0,0,0 +1,0,0 +0,1,0 +0,0,1", 16}, {"+0,0,0 +1,0,0 +0,1,0 +1,1,0", 14}, {"+0,0,0 +1,0,0 +0,1,0 +0,0,1 +1,1,1", 30},
		{"+0,0,0,0 +1,0,0,0 +0,1,0,0 +0,0,1,0 +0,0,0,1 +1,1,1,1", 62}, {"+0,0,0,0 +1,0,0,0 +0,1,0,0 +0,0,1,0 +0,0,0,1", 32},
		{"+0,0,0 +0,0,1 +0,1,0 +0,1,1 +1,0,0 +1,0,1 +1,1,0 +1,1,1", 104},
		{"+-9 +-9 +9 +9", 4}, {"+-9,-9,-9,-9 +9,9,9,9 +-9,9,-9,9", 8},
	} {
		if count, ok := impl.CountPartings(pointsOfText(t, c.text)); !ok || count != c.want {
			t.Errorf("%s: %d, %v", c.text, count, ok)
		}
	}
}

// There may be MaxFew points, and not one more.
func TestCountsOfManyPoints(t *testing.T) {
	for n := range 20 {
		points := repeated(n, 1, 9, -9, 9, -9).Points
		count, one := impl.CountPartings(points)
		general, two := impl.InGeneralPosition(points)
		fine := n <= 8
		want := 0
		if fine {
			want = min(n+1, 2)
		}
		if one != fine || two != fine || count != want || general != (n < 2) {
			t.Errorf("%d points: %d, %v; %v, %v", n, count, one, general, two)
		}
	}
	lists := [][][]int{{{}}, {nil}, {{1}, {1, 2}}, {{1, 2}, {1}}, {{1}, nil}, {{1}, {2}, {3, 4}}, make([][]int, 8), make([][]int, 1000)}
	for _, x := range notPoints() {
		lists = append(lists, [][]int{x}, [][]int{{1, 2}, {3, 4}, x})
	}
	for _, points := range lists {
		count, one := impl.CountPartings(points)
		general, two := impl.InGeneralPosition(points)
		if one || two || count != 0 || general {
			t.Errorf("%.100v: %d, %v; %v, %v", points, count, one, general, two)
		}
	}
	for _, points := range [][][]int{nil, {}} {
		count, one := impl.CountPartings(points)
		general, two := impl.InGeneralPosition(points)
		if !one || !two || count != 1 || !general {
			t.Errorf("no points: %d, %v; %v, %v", count, one, general, two)
		}
	}
}

func TestInGeneralPosition(t *testing.T) {
	for _, c := range []struct {
		text string
		want bool
	}{
		{"none", true}, {"+0", true}, {"+0,0,0,0", true}, {"+9,-9,9,-9", true}, {"+0 +1", true}, {"+0 +0", false}, {"+1 +2 +1", false},
		{"+0 +1 +2 +3 +4 +5 +6 +7", true}, {"+0 +1 +2 +3 +4 +5 +6 +0", false}, {"+1,2 +3,0 +-1,1", true},
		{"+0,0 +1,1 +2,2", false}, {"+0,0 +1,1 +2,3", true}, {"+0,0 +0,0", false}, {"+0,0 +1,0 +0,1 +1,1", true},
		{"+1,0 +2,0", true}, // one is 2 times the other, but the number 2 has not the sum 1
		{"+0,0 +1,0 +0,1 +2,0", false}, {"+0,0 +3,0 +0,3 +1,2", false}, {"+0,0 +3,0 +0,3 +1,1", true},
		{"+0,0,0 +1,0,0 +0,1,0 +1,1,0", false}, {"+0,0,0 +1,0,0 +0,1,0 +1,1,1", true}, {"+0,0,0 +1,0,0 +2,0,0", false},
		{"+0,0,0 +1,0,0 +0,1,0 +0,0,1 +1,1,1", true}, {"+0,0,0 +1,0,0 +0,1,0 +0,0,1 +1,1,0", false},
		{"+0,0,0,0 +1,0,0,0 +0,1,0,0 +0,0,1,0 +1,1,1,0", false}, {"+0,0,0,0 +1,0,0,0 +0,1,0,0 +0,0,1,0 +1,1,1,1", true},
		{"+0,0,0,0 +1,0,0,0 +0,1,0,0 +1,1,0,0", false}, {"+0,0,0,0 +0,0,0,0 +1,0,0,0", false},
		{"+-9,-9,-9,-9 +9,9,9,9", true}, {"+-9,-9,-9,-9 +9,9,9,9 +0,0,0,0", false},
	} {
		if general, ok := impl.InGeneralPosition(pointsOfText(t, c.text)); !ok || general != c.want {
			t.Errorf("%s: %v, %v", c.text, general, ok)
		}
	}
}

// partingsBy counts, apart from the program, the lists of labels with which points can be parted.
func partingsBy(t *testing.T, points [][]int) int {
	t.Helper()
	count := 0
	for _, labels := range labelsOf(len(points)) {
		if partedBy(t, impl.Sample{Points: points, Labels: labels}) {
			count++
		}
	}
	return count
}

// isGeneralBy tells by other means than the program whether points are in general position: this
// is so exactly if all sets of at most as many points as a point has numbers, and 1, can be
// parted with all labels.
func isGeneralBy(t *testing.T, points [][]int) bool {
	t.Helper()
	if len(points) == 0 {
		return true
	}
	for _, set := range setsOf(len(points), len(points[0])+1) {
		some := [][]int{}
		for _, place := range set {
			some = append(some, points[place])
		}
		if partingsBy(t, some) != 1<<len(some) {
			return false
		}
	}
	return true
}

// eachFew calls a function with random points of each length, at most MaxFew, some of which are
// the same.
func eachFew(seed int64, most int, call func(points [][]int)) {
	r := rand.New(rand.NewSource(seed))
	for d := 1; d <= 4; d++ {
		for n := 0; n <= most; n++ {
			for _, limit := range []int{1, 2, 9, 9, 9} {
				points := randomSample(r, n, d, limit).Points
				call(points)
				if n > 1 && r.Intn(3) == 0 {
					points[r.Intn(n-1)] = slices.Clone(points[n-1])
					call(points)
				}
			}
		}
	}
}

// The counts are those of the labels with which weights and a bound are found, and with which
// CanPart reports true. They are PartingBound in general position, and no more than it elsewhere.
func TestPartingsAreThoseOfTheDocument(t *testing.T) {
	count := map[bool]int{}
	eachFew(100, 8, func(points [][]int) {
		partings, one := impl.CountPartings(points)
		general, two := impl.InGeneralPosition(points)
		if !one || !two || partings != partingsBy(t, points) || general != isGeneralBy(t, points) {
			t.Fatalf("%v: %d, %v; %v, %v", points, partings, one, general, two)
		}
		can := 0
		for _, labels := range labelsOf(len(points)) {
			if parted, _ := impl.CanPart(impl.Sample{Points: points, Labels: labels}); parted {
				can++
			}
		}
		d := 1
		if len(points) > 0 {
			d = len(points[0])
		}
		bound, ok := impl.PartingBound(len(points), d)
		if !ok || can != partings || partings > bound || general && partings != bound {
			t.Fatalf("%v: %d and %d, the bound is %d, %v; %v", points, partings, can, bound, ok, general)
		}
		count[general]++
	})
	if count[true] < 40 || count[false] < 40 {
		t.Error(count)
	}
}

// Points in another order, or moved, have the same counts.
func TestPartingsAreKept(t *testing.T) {
	r := rand.New(rand.NewSource(101))
	eachFew(102, 8, func(points [][]int) {
		if len(points) == 0 {
			return
		}
		count, _ := impl.CountPartings(points)
		general, _ := impl.InGeneralPosition(points)
		same := func(points [][]int) {
			t.Helper()
			other, one := impl.CountPartings(points)
			still, two := impl.InGeneralPosition(points)
			if !one || !two || other != count || still != general {
				t.Fatalf("%v: %d and %d, %v; %v and %v, %v", points, count, other, one, general, still, two)
			}
		}
		mixed := slices.Clone(points)
		r.Shuffle(len(mixed), func(i, k int) { mixed[i], mixed[k] = mixed[k], mixed[i] })
		same(mixed)
		s := impl.Sample{Points: points, Labels: slices.Repeat([]int{1}, len(points))}
		if moved, ok := impl.MoveSample(s, randomList(r, len(points[0]), 1)); ok {
			same(moved.Points)
		}
	})
}

func TestPartingBound(t *testing.T) {
	// The rows are for n, the columns for d from 1 to 4.
	rows := [][]int{
		{1, 1, 1, 1}, {2, 2, 2, 2}, {4, 4, 4, 4}, {6, 8, 8, 8}, {8, 14, 16, 16},
		{10, 22, 30, 32}, {12, 32, 52, 62}, {14, 44, 84, 114}, {16, 58, 128, 198},
	}
	for n := -3; n <= 12; n++ {
		for d := -3; d <= 8; d++ {
			want, fine := 0, n >= 0 && n <= 8 && d >= 1 && d <= 4
			if fine {
				want = rows[n][d-1]
			}
			if bound, ok := impl.PartingBound(n, d); ok != fine || bound != want {
				t.Errorf("PartingBound(%d, %d) = %d, %v", n, d, bound, ok)
			}
		}
	}
	for _, n := range []int{math.MinInt, math.MaxInt} {
		one, first := impl.PartingBound(n, 2)
		two, second := impl.PartingBound(2, n)
		if first || second || one != 0 || two != 0 {
			t.Errorf("%d: %d, %v; %d, %v", n, one, first, two, second)
		}
	}
}

// tablesBy counts by the document's definition the tables of n bits that Planes have.
func tablesBy(t *testing.T, n, m int) int {
	t.Helper()
	tables := map[string]bool{}
	for _, weights := range listsWithin(n, m) {
		for bound := -99; bound <= 99; bound++ {
			text := ""
			for _, x := range bitPoints()[:1<<n] {
				text += string(rune('1' + sideBy(impl.Plane{Weights: weights, Bound: bound}, x[:n])))
			}
			tables[text] = true
		}
	}
	return len(tables)
}

func TestWeightsTable(t *testing.T) {
	for n := -2; n <= 6; n++ {
		for m := -3; m <= 9; m++ {
			want, fine := 0, n >= 1 && n <= 3 && m >= 0 && m <= 5
			if fine {
				want = tablesBy(t, n, m)
			}
			if count, ok := impl.WeightsTable(n, m); ok != fine || count != want {
				t.Errorf("WeightsTable(%d, %d) = %d, %v, not %d", n, m, count, ok, want)
			}
		}
	}
	for _, c := range []struct{ n, m, want int }{
		{1, 0, 2}, {2, 0, 2}, {3, 0, 2}, {1, 1, 4}, {1, 5, 4}, {2, 1, 14}, {2, 5, 14}, {3, 1, 56}, {3, 2, 104}, {3, 5, 104},
	} {
		if count, ok := impl.WeightsTable(c.n, c.m); !ok || count != c.want {
			t.Errorf("WeightsTable(%d, %d) = %d, %v", c.n, c.m, count, ok)
		}
	}
	for _, n := range []int{math.MinInt, math.MaxInt} {
		one, first := impl.WeightsTable(n, 2)
		two, second := impl.WeightsTable(2, n)
		if first || second || one != 0 || two != 0 {
			t.Errorf("%d: %d, %v; %d, %v", n, one, first, two, second)
		}
	}
}

// The tables of Planes with great enough Weights are just those whose points can be parted.
func TestTablesOfPlanesAreThoseThatCanBeParted(t *testing.T) {
	for n := 1; n <= 3; n++ {
		points := [][]int{}
		for k := range 1 << n {
			x, _ := impl.BitPoint(n, k)
			points = append(points, x)
		}
		parted, one := impl.CountPartings(points)
		tables, two := impl.WeightsTable(n, 5)
		if !one || !two || parted != tables {
			t.Errorf("%d bits: %d, %v; %d, %v", n, parted, one, tables, two)
		}
	}
}

// The limits are those of the document.
func TestLimitsOfSeparation(t *testing.T) {
	if impl.MaxSmall != 5 || impl.MaxFew != 8 {
		t.Error(impl.MaxSmall, impl.MaxFew)
	}
}
