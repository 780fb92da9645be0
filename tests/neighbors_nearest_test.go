package tests

import (
	"math"
	"math/rand"
	"slices"
	"testing"

	"loop.example/g01135/impl"
)

// The limits are those of the document.
func TestLimitsOfNeighbors(t *testing.T) {
	if impl.MaxDegree != 3 || impl.MaxPasses != 10 {
		t.Error(impl.MaxDegree, impl.MaxPasses)
	}
}

func TestNearestPlaces(t *testing.T) {
	for _, c := range []struct {
		text string
		x    []int
		want []int
	}{
		{"+1,2 -3,0 +-1,1", []int{0, 0}, []int{2, 0, 1}},
		{"+1,2 -3,0 +-1,1", []int{3, 0}, []int{1, 0, 2}},
		{"+1,2 -3,0 +-1,1", []int{1, 2}, []int{0, 2, 1}},
		{"+5", []int{-9}, []int{0}},
		{"+5", []int{5}, []int{0}},
		{"+1 -1", []int{0}, []int{0, 1}},
		{"-1 +1", []int{1}, []int{0, 1}},
		{"+2 --2 +2 --2", []int{0}, []int{0, 1, 2, 3}}, // all as near
		{"+3 --2 +2 --2", []int{0}, []int{1, 2, 3, 0}}, // all but the first one
		{"+2 -1 +-2 --1 +0", []int{0}, []int{4, 1, 3, 0, 2}},
		{"+2 -1 +-2 --1 +0", []int{9}, []int{0, 1, 4, 3, 2}},
		{"+2 -1 +-2 --1 +0", []int{-9}, []int{2, 3, 4, 1, 0}},
		{"+0,5 -3,4 +-4,-3 -5,0 +0,0", []int{0, 0}, []int{4, 0, 1, 2, 3}},
		{"+0,2 -1,1 +2,1", []int{0, 0}, []int{1, 0, 2}},  // the squares of the differences, not these
		{"+3,0 -2,2 +4,-1", []int{0, 0}, []int{1, 0, 2}}, // nor the greatest one
		{"+9,9,9,9 --9,-9,-9,-9", []int{-9, -9, -9, -9}, []int{1, 0}},
		{"+9,9,9,9 --9,-9,-9,-9", []int{0, 0, 0, 0}, []int{0, 1}},
		{"+9,9,9,9 --9,-9,-9,-9", []int{0, 0, 0, -1}, []int{1, 0}},
	} {
		s := sampleOfText(t, c.text)
		for k := 1; k <= len(s.Points); k++ {
			if near, ok := impl.NearestPlaces(s, c.x, k); !ok || !slices.Equal(near, c.want[:k]) {
				t.Errorf("%s, %v, %d: %v, %v", c.text, c.x, k, near, ok)
			}
		}
	}
}

func TestNearLabel(t *testing.T) {
	for _, c := range []struct {
		text string
		x    []int
		want []int // for each k
	}{
		{"+1,2 -3,0 +-1,1", []int{0, 0}, []int{1, 1, 1}},
		{"+1,2 -3,0 +-1,1", []int{3, 0}, []int{-1, 1, 1}},
		{"+5", []int{-9}, []int{1}},
		{"-5", []int{-9}, []int{-1}},
		{"+1 -1", []int{1}, []int{1, 1}},  // the sum of both labels is 0
		{"-1 +1", []int{1}, []int{-1, 1}}, // and so it is here
		{"-1 -2 +3 +4", []int{0}, []int{-1, -1, -1, 1}},
		{"+1 -2 -3 -4 +5", []int{0}, []int{1, 1, -1, -1, -1}},
		{"-1 +2 -3 +4 -5", []int{0}, []int{-1, 1, -1, 1, -1}},
		{"-1 +2 -3 +4 -5", []int{6}, []int{-1, 1, -1, 1, -1}},
		{"-0,1 +1,0 +0,-1 --1,0", []int{0, 0}, []int{-1, 1, 1, 1}},
	} {
		s := sampleOfText(t, c.text)
		for k := 1; k <= len(s.Points); k++ {
			if label, ok := impl.NearLabel(s, c.x, k); !ok || label != c.want[k-1] {
				t.Errorf("%s, %v, %d: %d, %v", c.text, c.x, k, label, ok)
			}
		}
	}
}

// checkNear checks the first k neighbors of a point and their label, for all k and those beyond.
func checkNear(t *testing.T, s impl.Sample, x []int) {
	t.Helper()
	order := neighborsBy(s, x)
	n := len(order)
	for k := -1; k <= n+2; k++ {
		near, one := impl.NearestPlaces(s, x, k)
		label, two := impl.NearLabel(s, x, k)
		if k < 1 || k > n {
			if one || two || len(near) > 0 || label != 0 {
				t.Fatalf("%v, %v, %d: %v, %v; %d, %v", s, x, k, near, one, label, two)
			}
			continue
		}
		if !one || !two || !slices.Equal(near, order[:k]) || label != nearLabelBy(s, x, k) {
			t.Fatalf("%v, %v, %d: %v, %v; %d, %v", s, x, k, near, one, label, two)
		}
	}
}

// Of all small Samples and points, and of drawn ones, the neighbors and their labels are those of
// the document.
func TestNeighborsBySearch(t *testing.T) {
	eachSmallest(4, func(s impl.Sample) {
		d := len(s.Points[0])
		for _, x := range listsWithin(d, 3-d) {
			checkNear(t, s, x)
		}
	})
	r := rand.New(rand.NewSource(500))
	for _, most := range []int{16, 8} {
		eachFewPoints(501+int64(most), most, func(s impl.Sample) {
			for _, x := range pointsFor(r, s) {
				checkNear(t, s, x)
			}
		})
	}
}

// MaxPoints points may all be neighbors, in any order.
func TestMostNeighbors(t *testing.T) {
	s := greatSample()
	for _, x := range append(slices.Clone(s.Points), []int{0, 0, 0, 0}, []int{9, 9, 9, 9}, []int{-9, 9, -9, 9}) {
		checkNear(t, s, x)
	}
	same := repeated(16, -1, 9, -9, 9, -9)
	if near, ok := impl.NearestPlaces(same, []int{-9, 9, -9, 9}, 16); !ok || !slices.Equal(near, placesBesides(16, nil)) {
		t.Error(near, ok)
	}
}

// Points with other numbers of numbers have no neighbors, and neither have points in Samples without
// points, nor for other k.
func TestNoNeighbors(t *testing.T) {
	check := func(s impl.Sample, x []int, k int) {
		t.Helper()
		near, one := impl.NearestPlaces(s, x, k)
		label, two := impl.NearLabel(s, x, k)
		if one || two || len(near) > 0 || label != 0 {
			t.Errorf("%.100v, %.100v, %d: %v, %v; %d, %v", s, x, k, near, one, label, two)
		}
	}
	for d := 0; d <= 5; d++ {
		for e := 0; e <= 5; e++ {
			if d != e || d == 0 || d == 5 {
				check(sampleOf([]int{1}, make([]int, d)), make([]int, e), 1)
			}
		}
		for k := -1; k <= 1; k++ {
			check(impl.Sample{}, make([]int, d), k)
		}
	}
	for _, value := range samplesWithout() {
		check(value.(impl.Sample), []int{1, 2}, 1)
		check(value.(impl.Sample), []int{1}, 1)
	}
	for _, x := range notPoints() {
		check(fourPoints(), x, 1)
	}
	for _, k := range []int{0, 5, 6, -1, 16, 17, math.MinInt, math.MaxInt} {
		check(fourPoints(), []int{1, 1}, k)
	}
}

func TestLeftOutMistakes(t *testing.T) {
	for _, c := range []struct {
		text string
		want [][]int // for each k
	}{
		{"+1,2 -3,0 +-1,1", [][]int{{1}, {1}}},
		{"+1 +2", [][]int{{}}},
		{"-1 -2", [][]int{{}}},
		{"+1 -2", [][]int{{0, 1}}},
		{"+1 -1", [][]int{{0, 1}}},
		{"+1 +1", [][]int{{}}},
		{"-1 +1 -1", [][]int{{0, 1}, {0, 1, 2}}}, // the other points come in the order of their places
		{"-1 -1 +1", [][]int{{2}, {0, 1, 2}}},
		{"+1 -2 +3", [][]int{{0, 1, 2}, {1}}}, // 2 neighbors of the first and the last one have the sum 0
		{"-1 +2 -3", [][]int{{0, 1, 2}, {0, 1, 2}}},
		{"-0 -1 +4 +5", [][]int{{}, {0, 1}, {0, 1, 2, 3}}},
		{"+0 -4 +8", [][]int{{0, 1, 2}, {1}}},
		{"-0 +4 -8", [][]int{{0, 1, 2}, {0, 1, 2}}},
		{"+4 -0 -8", [][]int{{0, 1, 2}, {0, 1, 2}}},
	} {
		s := sampleOfText(t, c.text)
		for k := 1; k < len(s.Points); k++ {
			if list, ok := impl.LeftOutMistakes(s, k); !ok || !slices.Equal(list, c.want[k-1]) {
				t.Errorf("%s, %d: %v, %v", c.text, k, list, ok)
			}
		}
	}
}

// There must be k other points: so one point has none for which it could be left out.
func TestNoPointsToLeaveOut(t *testing.T) {
	check := func(s impl.Sample, k int) {
		t.Helper()
		if list, ok := impl.LeftOutMistakes(s, k); ok || len(list) > 0 {
			t.Errorf("%.100v, %d: %v, %v", s, k, list, ok)
		}
	}
	for _, value := range samplesWithout() {
		for k := -2; k <= 2; k++ {
			check(value.(impl.Sample), k)
		}
	}
	for n := 1; n <= 16; n++ {
		for _, k := range []int{0, n, n + 1, -1, -n, math.MinInt, math.MaxInt} {
			check(repeated(n, 1, 2, 3), k)
		}
	}
}

// Of all small Samples, and of drawn ones, the mistakes of points left out are those of the
// document, and those of a PartSample.
func TestLeftOutMistakesBySearch(t *testing.T) {
	count := map[bool]int{}
	check := func(s impl.Sample) {
		for k := 1; k < len(s.Points); k++ {
			list, ok := impl.LeftOutMistakes(s, k)
			if !ok || !slices.Equal(list, leftOutBy(s, k)) {
				t.Fatalf("%v, %d: %v, %v", s, k, list, ok)
			}
			count[len(list) > 0]++
			for i, x := range s.Points {
				others, one := impl.PartSample(s, placesBesides(len(s.Points), []int{i}))
				label, two := impl.NearLabel(others, x, k)
				if !one || !two || slices.Contains(list, i) != (label != s.Labels[i]) {
					t.Fatalf("%v, %d: %v, but %d for %v", s, k, list, label, x)
				}
			}
		}
	}
	eachSmallest(4, check)
	for _, most := range []int{16, 9} {
		eachFewPoints(503+int64(most), most, check)
	}
	if count[true] < 1000 || count[false] < 1000 {
		t.Error(count)
	}
}
