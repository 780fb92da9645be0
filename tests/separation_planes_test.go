package tests

import (
	"math"
	"math/rand"
	"slices"
	"testing"

	"loop.example/g01135/impl"
)

func TestSmallPlane(t *testing.T) {
	for _, c := range []struct {
		text string
		m    int // the least one with which it does not fail
		want impl.Plane
	}{
		{"+1,2 -3,0 +-1,1", 1, planeOf(-2, -1, 0)},
		{"+0", 0, planeOf(-99, 0)}, {"+9,9,9,9", 0, planeOf(-99, 0, 0, 0, 0)}, {"+0 +0 +5", 0, planeOf(-99, 0)},
		{"-0", 0, planeOf(1, 0)}, {"-9,9,9,9 --9,9,9,9", 0, planeOf(1, 0, 0, 0, 0)}, {"-0 -0 -5", 0, planeOf(1, 0)},
		{"+1 -0", 1, planeOf(1, 1)}, {"-1 +0", 1, planeOf(0, -1)}, {"+1 +1 -0 -0", 1, planeOf(1, 1)},
		{"+9 --9", 1, planeOf(-8, 1)}, {"-9 +-9", 1, planeOf(-8, -1)},
		{"+1,1 -0,1 -1,0 -0,0", 1, planeOf(2, 1, 1)}, {"-0,0 +0,1 +1,0 +1,1", 1, planeOf(1, 1, 1)},
		{"+2,0 -0,1 -1,-1", 1, planeOf(2, 1, 0)}, {"+1,0 -0,1", 1, planeOf(0, 0, -1)}, {"+3,0 -2,1 -0,0", 1, planeOf(2, 1, -1)},
		{"+2,0 +0,1 -1,0 --1,1", 2, planeOf(2, 1, 2)}, {"-2,0 -0,1 +1,0 +-1,1", 2, planeOf(-1, -1, -2)},
		{"+9,9,9,9 -8,9,9,9", 1, planeOf(-18, 1, -1, -1, -1)},
		{"+9,8,6 +9,3,9 -7,6,9 +6,8,9 +7,8,8 +8,8,7 -8,6,8 -9,6,7", 5, planeOf(99, 5, 3, 5)},
		{"+-8,-9,-8 +-9,-6,-9 --7,-9,-9 --9,-8,-8", 5, planeOf(-99, 4, 3, 5)},
		{ // the Weights 3, 5, 2 and 4 come first, but only with the Bound 104
			"+6,8,9,7 -8,7,9,5 +7,8,6,8 -6,9,6,7 -8,9,5,4 -7,9,9,2 -5,9,9,6 +8,8,4,8 -8,7,6,8", 5, planeOf(96, 4, 5, 2, 2),
		},
	} {
		s := sampleOfText(t, c.text)
		for m := range 6 {
			p, ok := impl.SmallPlane(s, m)
			if ok != (m >= c.m) || ok && !sameText(p, c.want) || !ok && !sameText(p, impl.Plane{}) {
				t.Errorf("%s, %d: %v, %v", c.text, m, p, ok)
			}
		}
	}
}

// There is no small Plane for Samples that cannot be parted, for those that only others part, and
// for those that need a Bound that no Plane has.
func TestNoSmallPlane(t *testing.T) {
	for _, text := range []string{
		"none", "+0 -0", "-0,0 -1,1 +0,1 +1,0", "+0 -1 +2", "+9,9,9,9 -9,9,9,9",
		"+6,0 +0,1 -5,0 --1,1", // only the Weights 1 and 6 or multiples would do
		"+8,9,8 +9,7,9 -6,9,9 -9,8,8",
		"+-5,-8,-9 +-6,-7,-9 +-9,-4,-9 +-9,-8,-4 --9,-5,-8 --7,-7,-8 --8,-6,-8 --9,-9,-3 --6,-8,-8",
	} {
		for m := range 6 {
			if p, ok := impl.SmallPlane(sampleOfText(t, text), m); ok || !sameText(p, impl.Plane{}) {
				t.Errorf("%s, %d: %v, %v", text, m, p, ok)
			}
		}
	}
	for _, m := range []int{-1, -2, -5, 6, 7, 9, math.MinInt, math.MaxInt} {
		for _, text := range []string{"+0", "+1 -0", "none"} {
			s := sampleOfText(t, text)
			p, one := impl.SmallPlane(s, m)
			weights, two := impl.WidestWeights(s, m)
			if one || two || !sameText(p, impl.Plane{}) || len(weights) > 0 {
				t.Errorf("%s, %d: %v, %v; %v, %v", text, m, p, one, weights, two)
			}
		}
	}
}

// smallPlaneBy is the small Plane by the document's definition: of all that fit, that with the
// least size, then the first Weights and then the least Bound.
func smallPlaneBy(s impl.Sample, m int) (impl.Plane, bool) {
	size := func(p impl.Plane) int { return max(slices.Max(p.Weights), -slices.Min(p.Weights)) }
	best, found := impl.Plane{}, false
	if len(s.Points) == 0 {
		return best, found
	}
	for _, weights := range listsWithin(len(s.Points[0]), m) {
		for bound := -99; bound <= 99; bound++ {
			p := impl.Plane{Weights: weights, Bound: bound}
			if (!found || size(p) < size(best)) && len(mistakesBy(s, p)) == 0 {
				best, found = p, true
			}
		}
	}
	return best, found
}

// The small Planes are those of the document, for each length of points and each m that is not
// too great to try all Planes.
func TestSmallPlanesAreThoseOfTheDocument(t *testing.T) {
	count := map[bool]int{}
	r := rand.New(rand.NewSource(92))
	check := func(s impl.Sample, m int) {
		t.Helper()
		want, found := smallPlaneBy(s, m)
		if p, ok := impl.SmallPlane(s, m); ok != found || !sameText(p, want) {
			t.Fatalf("%v, %d: %v, %v, not %v, %v", s, m, p, ok, want, found)
		}
		count[found]++
	}
	eachSmallSample(3, func(s impl.Sample) { check(s, 2) })
	eachMixed(93, 7, func(s impl.Sample) {
		d := 1
		if len(s.Points) > 0 {
			d = len(s.Points[0])
		}
		check(s, r.Intn([]int{0, 6, 5, 3, 2}[d]))
	})
	if count[true] < 100 || count[false] < 100 {
		t.Error(count)
	}
}

func TestWidthOf(t *testing.T) {
	for _, c := range []struct {
		text    string
		weights []int
		want    int
	}{
		{"+1,2 -3,0 +-1,1", []int{-1, 1}, 4}, {"+1,2 -3,0 +-1,1", []int{1, -1}, -5}, {"+1,2 -3,0 +-1,1", []int{0, 0}, 0},
		{"+1,2 -3,0 +-1,1", []int{0, 1}, 1}, {"+1,2 -3,0 +-1,1", []int{0, 99}, 99}, {"+1,2 -3,0 +-1,1", []int{-99, 99}, 396},
		{"+5 -5", []int{7}, 0}, {"+5 -5", []int{-99}, 0}, {"+5 -4", []int{99}, 99}, {"+5 -4", []int{-99}, -99},
		{"+5 +3 -4 -1", []int{1}, -1}, {"+5 +3 -4 -1", []int{-1}, -4}, {"-5 +9 +8 -6 -5", []int{2}, 4},
		{"+9,9,9,9 --9,-9,-9,-9", []int{99, 99, 99, 99}, 7128}, {"+9,9,9,9 --9,-9,-9,-9", []int{-99, -99, -99, -99}, -7128},
	} {
		if width, ok := impl.WidthOf(sampleOfText(t, c.text), c.weights); !ok || width != c.want {
			t.Errorf("%s, %v: %d, %v", c.text, c.weights, width, ok)
		}
	}
	for _, c := range []struct {
		text    string
		weights []int
	}{
		{"none", nil}, {"none", []int{1}}, {"+1", []int{1}}, {"-1", []int{1}}, {"+1 +2", []int{1}}, {"-1 -2", []int{1}},
		{"+1 -2", nil}, {"+1 -2", []int{}}, {"+1 -2", []int{1, 1}}, {"+1,2 -3,4", []int{1}}, {"+1,2 -3,4", []int{1, 1, 1}},
		{"+1 -2", []int{100}}, {"+1 -2", []int{-100}}, {"+1,2 -3,4", []int{0, 100}}, {"+1,2 -3,4", []int{-100, 0}},
		{"+1 -2", []int{math.MaxInt}}, {"+1 -2", []int{math.MinInt}}, {"+1,2,3,4 -1,2,3,4", []int{1, 1, 1, 1, 1}},
	} {
		if width, ok := impl.WidthOf(sampleOfText(t, c.text), c.weights); ok || width != 0 {
			t.Errorf("%s, %v: %d, %v", c.text, c.weights, width, ok)
		}
	}
}

// widthBy is the width by the document's definition, of all pairs of points.
func widthBy(s impl.Sample, weights []int) int {
	width := math.MaxInt
	for i, x := range s.Points {
		for k, y := range s.Points {
			if s.Labels[i] != 1 || s.Labels[k] != -1 {
				continue
			}
			far := 0
			for place, w := range weights {
				far += w * (x[place] - y[place])
			}
			width = min(width, far)
		}
	}
	return width
}

// hasBoth tells whether a Sample has points with both labels.
func hasBoth(s impl.Sample) bool {
	return slices.Contains(s.Labels, 1) && slices.Contains(s.Labels, -1)
}

func TestWidestWeights(t *testing.T) {
	for _, c := range []struct {
		text string
		m    int
		want []int
	}{
		{"+1,2 -3,0 +-1,1", 1, []int{-1, 1}}, {"+1,2 -3,0 +-1,1", 2, []int{-2, 2}}, {"+1,2 -3,0 +-1,1", 5, []int{-5, 5}},
		{"+1 -0", 1, []int{1}}, {"+1 -0", 5, []int{1}}, {"-1 +0", 1, []int{-1}}, {"-1 +0", 5, []int{-5}}, {"+9 +8 --9", 3, []int{1}},
		{"+1,0 -0,0", 5, []int{1, 0}}, {"+1,2 -0,0", 5, []int{1, 2}}, {"+1,2 -0,0", 1, []int{1, 1}}, {"-1,2 +0,0", 5, []int{-2, -4}},
		{"+1,0 -0,0 +1,5 -0,-5", 4, []int{1, 0}}, {"+4,3 -0,0", 5, []int{4, 3}}, {"+4,3 -0,0", 3, []int{3, 2}}, {"+4,3 -0,0", 2, []int{1, 1}},
		{"+9,9,9,9 --9,-9,-9,-9", 1, []int{1, 1, 1, 1}}, {"-9,9,9,9 +-9,-9,-9,-9", 2, []int{-2, -2, -2, -2}},
	} {
		if weights, ok := impl.WidestWeights(sampleOfText(t, c.text), c.m); !ok || !slices.Equal(weights, c.want) {
			t.Errorf("%s, %d: %v, %v", c.text, c.m, weights, ok)
		}
	}
	for _, c := range []struct {
		text string
		m    int
	}{
		{"none", 5}, {"+1", 5}, {"-1", 5}, {"+1 +2", 5}, {"-1 -2", 5}, {"+1 -0", 0}, {"+1 -1", 5}, {"+0 -1 +2", 5},
		{"-0,0 -1,1 +0,1 +1,0", 5}, {"+6,0 +0,1 -5,0 --1,1", 5}, {"+2,0 +0,1 -1,0 --1,1", 1},
	} {
		if weights, ok := impl.WidestWeights(sampleOfText(t, c.text), c.m); ok || len(weights) > 0 {
			t.Errorf("%s, %d: %v, %v", c.text, c.m, weights, ok)
		}
	}
}

// widestBy is the list of widest weights by the document's definition: each one is held against
// all others.
func widestBy(s impl.Sample, m int) []int {
	wide, widths := [][]int{}, []int{}
	for _, weights := range listsWithin(len(s.Points[0]), m) {
		if width := widthBy(s, weights); width > 0 {
			wide, widths = append(wide, weights), append(widths, width)
		}
	}
	square := func(weights []int) int {
		sum, _ := impl.SquareDistance(weights, make([]int, len(weights)))
		return sum
	}
	for i, weights := range wide {
		wider := slices.IndexFunc(wide, func(other []int) bool {
			width := widthBy(s, other)
			return width*width*square(weights) > widths[i]*widths[i]*square(other)
		})
		if wider < 0 {
			return weights
		}
	}
	return nil
}

// The widths, the widest weights and the nearest pair are those of the document; and the square of
// a width is at most the distance of the pair times the sum of the squares of the weights.
func TestWidthsAndPairsAreThoseOfTheDocument(t *testing.T) {
	count := map[bool]int{}
	r := rand.New(rand.NewSource(94))
	check := func(s impl.Sample) {
		i, k, distance, ok := impl.NearestPair(s)
		if ok != hasBoth(s) {
			t.Fatalf("%v: %d, %d, %d, %v", s, i, k, distance, ok)
		}
		if !ok {
			return
		}
		one, other, least := nearestBy(s)
		if i != one || k != other || distance != least {
			t.Fatalf("%v: %d, %d, %d, not %d, %d, %d", s, i, k, distance, one, other, least)
		}
		d := len(s.Points[0])
		for range 10 {
			weights := randomList(r, d, []int{2, 99}[r.Intn(2)])
			width, ok := impl.WidthOf(s, weights)
			if !ok || width != widthBy(s, weights) {
				t.Fatalf("%v, %v: %d, %v", s, weights, width, ok)
			}
			if square := vectorOf(weights); width > 0 && int64(width*width) > int64(distance)*square.times(square).Int64() {
				t.Fatalf("%v, %v: the width %d, but the distance %d", s, weights, width, distance)
			}
		}
		m := r.Intn([]int{0, 6, 6, 3, 2}[d])
		want := widestBy(s, m)
		weights, ok := impl.WidestWeights(s, m)
		if ok != (len(want) > 0) || !slices.Equal(weights, want) {
			t.Fatalf("%v, %d: %v, %v, not %v", s, m, weights, ok, want)
		}
		count[ok]++
	}
	eachSmallSample(3, check)
	for seed := range int64(2) {
		eachMixed(95+seed, 12, check)
	}
	if count[true] < 100 || count[false] < 100 {
		t.Error(count)
	}
}

// If some weights are wide, the Sample can be parted; small Planes that fit have wide Weights.
func TestWideWeightsPart(t *testing.T) {
	count := map[bool]int{}
	eachMixed(97, 10, func(s impl.Sample) {
		weights, wide := impl.WidestWeights(s, 2)
		can, _ := impl.CanPart(s)
		if wide && !can {
			t.Fatalf("%v cannot be parted, but %v are wide", s, weights)
		}
		p, ok := impl.SmallPlane(s, 2)
		if ok && hasBoth(s) && !wide {
			t.Fatalf("%v fits %v, but nothing is wide", p, s)
		}
		if ok && hasBoth(s) {
			if width, fine := impl.WidthOf(s, p.Weights); !fine || width <= 0 {
				t.Fatalf("%v fits %v, but has the width %d, %v", p, s, width, fine)
			}
		}
		count[wide]++
	})
	if count[true] < 100 || count[false] < 100 {
		t.Error(count)
	}
}

func TestNearestPair(t *testing.T) {
	for _, c := range []struct {
		text           string
		i, k, distance int
	}{
		{"+1,2 -3,0 +-1,1", 0, 1, 8}, {"+5 -5", 0, 1, 0}, {"-5 +5", 1, 0, 0}, {"+5 -5 +5 -5", 0, 1, 0}, {"-5 -5 +5 +5", 2, 0, 0},
		{"+0 -2 +4", 0, 1, 4}, {"-2 +4 +0", 1, 0, 4}, {"+0 -3 -1", 0, 2, 1}, {"+0 +3 -9 -4", 1, 3, 1},
		{"+9,9,9,9 --9,-9,-9,-9", 0, 1, 1296}, {"--9,-9,-9,-9 +9,9,9,9", 1, 0, 1296}, {"+0 -1 --1 +2", 0, 1, 1},
		{"+0,0 -3,4 -5,0 +9,9", 0, 1, 25}, {"-1 +0 +2 -1", 1, 0, 1},
	} {
		if i, k, distance, ok := impl.NearestPair(sampleOfText(t, c.text)); !ok || i != c.i || k != c.k || distance != c.distance {
			t.Errorf("%s: %d, %d, %d, %v", c.text, i, k, distance, ok)
		}
	}
	for _, text := range []string{"none", "+0", "-0", "+1 +2", "-1 -2 -2", "+9,9,9,9 +-9,-9,-9,-9"} {
		if i, k, distance, ok := impl.NearestPair(sampleOfText(t, text)); ok || i != 0 || k != 0 || distance != 0 {
			t.Errorf("%s: %d, %d, %d, %v", text, i, k, distance, ok)
		}
	}
}

// nearestBy is the nearest pair by the document's definition.
func nearestBy(s impl.Sample) (int, int, int) {
	pairs := [][]int{} // the distance first
	for i, x := range s.Points {
		for k, y := range s.Points {
			if s.Labels[i] == 1 && s.Labels[k] == -1 {
				far := 0
				for place := range x {
					far += (x[place] - y[place]) * (x[place] - y[place])
				}
				pairs = append(pairs, []int{far, i, k})
			}
		}
	}
	first := slices.MinFunc(pairs, slices.Compare[[]int])
	return first[1], first[2], first[0]
}
