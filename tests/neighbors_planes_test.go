package tests

import (
	"math/big"
	"math/rand"
	"slices"
	"testing"

	"loop.example/g01135/impl"
)

func TestPairPlane(t *testing.T) {
	for _, c := range []struct {
		x, y []int
		want impl.Plane
	}{
		{[]int{1, 2}, []int{3, 0}, planeOf(-4, -4, 4)},
		{[]int{3, 0}, []int{1, 2}, planeOf(4, 4, -4)},
		{[]int{1}, []int{0}, planeOf(1, 2)},
		{[]int{0}, []int{1}, planeOf(-1, -2)},
		{[]int{5}, []int{-5}, planeOf(0, 20)},
		{[]int{9}, []int{-9}, planeOf(0, 36)}, // the greatest Weights
		{[]int{-9, 9, -9, 9}, []int{9, -9, 9, -9}, planeOf(0, -36, 36, -36, 36)},
		{[]int{1, 2, 3}, []int{1, 2, 4}, planeOf(-7, 0, 0, -2)},
		{[]int{9, 3, 3}, []int{0, 0, 0}, planeOf(99, 18, 6, 6)}, // the greatest Bound
		{[]int{0, 0, 0}, []int{9, -3, 3}, planeOf(-99, -18, 6, -6)},
		{[]int{9, 3, 3, 1}, []int{0, 0, 0, -1}, planeOf(99, 18, 6, 6, 4)},
		{[]int{9, 9, 9, 9}, []int{9, 9, 9, 8}, planeOf(17, 0, 0, 0, 2)},
	} {
		p, one := impl.PairPlane(c.x, c.y)
		other, two := impl.PairPlane(c.y, c.x)
		turned := planeOf(-c.want.Bound, otherSides(c.want.Weights)...)
		if !one || !two || !sameText(p, c.want) || !sameText(other, turned) {
			t.Errorf("%v, %v: %v, %v; %v, %v", c.x, c.y, p, one, other, two)
		}
	}
}

// Points that are the same, that have other numbers of numbers, or of which the squares are too
// different, have no PairPlane; neither have lists that are no points.
func TestPairsWithoutPlanes(t *testing.T) {
	check := func(x, y []int) {
		t.Helper()
		for range 2 {
			if p, ok := impl.PairPlane(x, y); ok || !sameText(p, impl.Plane{}) {
				t.Errorf("%.100v, %.100v: %v, %v", x, y, p, ok)
			}
			x, y = y, x
		}
	}
	for d := 0; d <= 5; d++ {
		for e := 0; e <= 5; e++ {
			if d != e || d == 0 || d == 5 {
				check(slices.Repeat([]int{1}, d), make([]int, e))
			}
		}
		check(slices.Repeat([]int{3}, d), slices.Repeat([]int{3}, d))
	}
	for _, x := range notPoints() {
		check(x, make([]int, len(x)))
		check(x, []int{1, 2})
	}
	check([]int{9, 3, 3, 1}, []int{0, 0, 0, 0}) // 100
	check([]int{9, 4, 2}, []int{1, 0, 0})       // 100
	check([]int{9, 9}, []int{0, 0})
	check([]int{9, 9, 9, 9}, []int{0, 0, 0, 0})
	check([]int{9, 9, 9, 9}, []int{9, 9, 0, 0})
	check([]int{-9, -9, -9, -9}, []int{1, -1, 1, -1})
}

// checkPairPlane checks that a pair of points has the Plane of the document if it is one, and that
// just the points that are at least as near to x as to y have the side 1. It returns whether there
// is a Plane.
func checkPairPlane(t *testing.T, x, y []int, points [][]int) bool {
	t.Helper()
	zero := make([]int, len(x))
	want := impl.Plane{Bound: distanceBy(x, zero) - distanceBy(y, zero)}
	for i := range x {
		want.Weights = append(want.Weights, 2*x[i]-2*y[i])
	}
	fine := !slices.Equal(x, y) && want.Bound >= -99 && want.Bound <= 99
	if !fine {
		want = impl.Plane{}
	}
	p, ok := impl.PairPlane(x, y)
	if ok != fine || !sameText(p, want) {
		t.Fatalf("%v, %v: %v, %v, not %v", x, y, p, ok, want)
	}
	for _, z := range points {
		side, one := impl.SideOf(p, z)
		far, two := impl.SquareDistance(z, x)
		other, three := impl.SquareDistance(z, y)
		if ok && (!one || !two || !three || (side == 1) != (far <= other)) {
			t.Fatalf("%v, %v: %v gives %v the side %d", x, y, p, z, side)
		}
	}
	return fine
}

// All pairs of points of one number, of two numbers in -2..2, and drawn ones of each length.
func TestPairPlanesBySearch(t *testing.T) {
	all, some := listsWithin(1, 9), listsWithin(2, 2)
	for _, points := range [][][]int{all, some} {
		for _, x := range points {
			for _, y := range points {
				checkPairPlane(t, x, y, points)
			}
		}
	}
	r := rand.New(rand.NewSource(540))
	count := map[bool]int{}
	for range 5000 {
		d := 1 + r.Intn(4)
		x, y, points := randomList(r, d, 9), randomList(r, d, 9), [][]int{}
		for range 10 {
			points = append(points, randomList(r, d, 9))
		}
		count[checkPairPlane(t, x, y, append(points, x, y))]++
	}
	if count[true] < 1000 || count[false] < 500 {
		t.Error(count)
	}
}

func TestMeanPlane(t *testing.T) {
	for _, c := range []struct {
		s       impl.Sample
		weights []int
		bound   int
	}{
		{sampleOfText(t, "+1,2 -3,0 +-1,1"), []int{-24, 12}, -27},
		{sampleOfText(t, "+1,2 -3,0"), []int{-4, 4}, -4},
		{sampleOfText(t, "-3,0 +1,2"), []int{-4, 4}, -4},
		{sampleOfText(t, "+5 -5"), []int{0}, 0}, // both means are the same
		{sampleOfText(t, "+1 +3 -2"), []int{0}, 0},
		{sampleOfText(t, "+1 -0"), []int{2}, 1},
		{sampleOfText(t, "+1 -0 -0"), []int{8}, 4},
		{sampleOfText(t, "+1 +1 -0"), []int{8}, 4},
		{sampleOfText(t, "-1 +0"), []int{-2}, -1},
		{sampleOfText(t, "+1 +2 -3 -4 -5"), []int{2 * 2 * 3 * (3*3 - 2*12)}, 9*9 - 4*144},
		{sampleOfText(t, "+9,9,9,9 -0,0,0,0"), []int{18, 18, 18, 18}, 324}, // more than the Bound of a Plane
		{
			sampleOf(slices.Concat(slices.Repeat([]int{1}, 8), slices.Repeat([]int{-1}, 8)), slices.Concat(repeated(8, 1, 9, 9, 9, 9).Points, repeated(8, 1, -9, -9, -9, -9).Points)...),
			slices.Repeat([]int{147456}, 4), 0,
		},
		{
			sampleOf(slices.Concat([]int{-1}, slices.Repeat([]int{1}, 15)), slices.Concat([][]int{{0, 0, 0, 0}}, repeated(15, 1, 9, -9, 9, 9).Points)...),
			[]int{4050, -4050, 4050, 4050}, 15 * 15 * 81 * 4,
		},
	} {
		if weights, bound, ok := impl.MeanPlane(c.s); !ok || !slices.Equal(weights, c.weights) || bound != c.bound {
			t.Errorf("%v: %v, %d, %v", c.s, weights, bound, ok)
		}
	}
}

// Samples without both labels have no MeanPlane.
func TestSamplesWithoutMeans(t *testing.T) {
	check := func(s impl.Sample) {
		t.Helper()
		if weights, bound, ok := impl.MeanPlane(s); ok || len(weights) > 0 || bound != 0 {
			t.Errorf("%.100v: %v, %d, %v", s, weights, bound, ok)
		}
	}
	for _, value := range samplesWithout() {
		check(value.(impl.Sample))
	}
	for n := 1; n <= 16; n++ {
		check(repeated(n, 1, 1, 2))
		check(repeated(n, -1, 1, 2))
	}
}

// meanDistanceBy is the square distance of a point from the mean of the points with a label.
func meanDistanceBy(s impl.Sample, label int, z []int) *big.Rat {
	sum := new(big.Rat)
	for i, n := range z {
		number, total := int64(0), int64(0)
		for j, x := range s.Points {
			if s.Labels[j] == label {
				number++
				total += int64(x[i])
			}
		}
		far := new(big.Rat).Sub(big.NewRat(int64(n), 1), big.NewRat(total, number))
		sum.Add(sum, far.Mul(far, far))
	}
	return sum
}

// Just the points at least as near to the mean of the points with the label 1 have a product of at
// least the bound. For one point with each label it is their PairPlane, if they have one.
func TestMeanPlanesTellWhichMeanIsNearer(t *testing.T) {
	r := rand.New(rand.NewSource(541))
	count := map[int]int{}
	pairs := 0
	check := func(s impl.Sample) {
		weights, bound, ok := impl.MeanPlane(s)
		both := slices.Contains(s.Labels, 1) && slices.Contains(s.Labels, -1)
		if ok != both || !ok && (len(weights) > 0 || bound != 0) {
			t.Fatalf("%v: %v, %d, %v", s, weights, bound, ok)
		}
		if !ok {
			return
		}
		for _, z := range pointsFor(r, s) {
			near := meanDistanceBy(s, 1, z).Cmp(meanDistanceBy(s, -1, z))
			if (innerBy(weights, z) >= bound) != (near <= 0) {
				t.Fatalf("%v: %v, %d for %v", s, weights, bound, z)
			}
			count[near]++
		}
		checkMeanNumbers(t, s, weights, bound)
		if len(s.Points) == 2 {
			one := slices.Index(s.Labels, 1)
			if p, ok := impl.PairPlane(s.Points[one], s.Points[1-one]); ok {
				pairs++
				if !sameText(p, planeOf(bound, weights...)) {
					t.Fatalf("%v: %v, %d, but %v", s, weights, bound, p)
				}
			}
		}
	}
	eachSmallest(4, check)
	for seed := range int64(3) {
		eachFewPoints(542+seed, 16, check)
	}
	if count[-1] < 500 || count[0] < 100 || count[1] < 500 || pairs < 50 {
		t.Error(count, pairs)
	}
}

// checkMeanNumbers checks the weights and the bound by the means: they are the numbers of the
// PairPlane of these, times the squares of both numbers of points.
func checkMeanNumbers(t *testing.T, s impl.Sample, weights []int, bound int) {
	t.Helper()
	ones := int64(len(placesAbove(s.Labels)))
	others := int64(len(s.Labels)) - ones
	factor := big.NewRat(ones*ones*others*others, 1)
	zero := make([]int, len(weights))
	less := func(z []int) *big.Rat { // how much farther z is from the mean of the ones
		far := new(big.Rat).Sub(meanDistanceBy(s, 1, z), meanDistanceBy(s, -1, z))
		return far.Mul(far, factor)
	}
	at := less(zero)
	if at.Cmp(big.NewRat(int64(bound), 1)) != 0 {
		t.Fatalf("%v: the bound %d, not %v", s, bound, at)
	}
	for i, weight := range weights {
		unit := slices.Clone(zero)
		unit[i] = 1
		if want := new(big.Rat).Sub(at, less(unit)); want.Cmp(big.NewRat(int64(weight), 1)) != 0 {
			t.Fatalf("%v: the weights %v, not %v at %d", s, weights, want, i)
		}
	}
}
