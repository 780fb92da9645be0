package tests

import (
	"math"
	"math/rand"
	"slices"
	"testing"

	"loop.example/g01135/impl"
)

// The limits are those of the document.
func TestLimitsOfStumps(t *testing.T) {
	if impl.MaxHeft != 1000000 || impl.MaxBoosts != 8 || impl.MaxJury != 9 {
		t.Error(impl.MaxHeft, impl.MaxBoosts, impl.MaxJury)
	}
}

func TestIsStump(t *testing.T) {
	for _, p := range []impl.Plane{
		planeOf(0, 1), planeOf(0, -1), planeOf(5, 0, 1), planeOf(-5, -1, 0), planeOf(0, 0, 0, -1), planeOf(7, 0, 0, 0, 1),
		planeOf(99, 1), planeOf(-99, 1), planeOf(99, 0, -1), planeOf(-99, 0, -1), planeOf(0, 0, 1, 0, 0),
	} {
		if !impl.IsStump(p) {
			t.Errorf("%v is no stump", p)
		}
	}
	for _, p := range append(notPlanes(), notStumps()...) {
		if impl.IsStump(p) {
			t.Errorf("%.100v is a stump", p)
		}
	}
}

// notStumps returns Planes that are no stumps, and stumps with a Bound that is no longer one.
func notStumps() []impl.Plane {
	return []impl.Plane{
		planeOf(0, 0), planeOf(1, 0, 0), planeOf(0, 0, 0, 0, 0), planeOf(0, 2), planeOf(0, -2), planeOf(0, 99), planeOf(0, 0, 2),
		planeOf(0, 1, 1), planeOf(0, 1, -1), planeOf(0, -1, -1), planeOf(0, 2, -1), planeOf(0, -1, 2), planeOf(0, 1, 0, 1), planeOf(0, 1, 1, -1),
		planeOf(0, 0, -1, 0, 1), planeOf(3, 1, 1, 1, 1), planeOf(100, 1), planeOf(-100, 1), planeOf(100, 0, -1), planeOf(-100, -1, 0),
		planeOf(math.MaxInt, 1), planeOf(math.MinInt, -1), planeOf(0, 0, 0, 0, 0, 1), planeOf(0, 1, 0, 0, 0, 0), planeOf(0, 3, -2), planeOf(0, -2, 1),
	}
}

// Of all Planes with small Weights, and with Bounds at and behind their limits, just the stumps are
// some.
func TestStumpsAmongAllPlanes(t *testing.T) {
	count := map[bool]int{}
	for d := range 6 {
		for _, weights := range listsWithin(d, 2) {
			for _, bound := range []int{0, 1, -99, 99, 100, -100} {
				p := planeOf(bound, weights...)
				want := isStumpBy(p)
				if is := impl.IsStump(p); is != want {
					t.Fatalf("%v: %v", p, is)
				}
				count[want]++
			}
		}
	}
	if count[true] != 4*2*(1+2+3+4) || count[false] < 20000 {
		t.Error(count)
	}
}

func TestStumpsOf(t *testing.T) {
	for _, c := range []struct {
		text string
		want []impl.Plane
	}{
		{"+1 -2 +3", stumpList([]int{1, 2, 3, 4}, []int{-3, -2, -1, 0})},
		{"+3 +1 -2", stumpList([]int{1, 2, 3, 4}, []int{-3, -2, -1, 0})},
		{"+0", stumpList([]int{0, 1}, []int{0, 1})},
		{"-5", stumpList([]int{5, 6}, []int{-5, -4})},
		{"+9", stumpList([]int{9, 10}, []int{-9, -8})},
		{"+-9", stumpList([]int{-9, -8}, []int{9, 10})},
		{"+-9 -9", stumpList([]int{-9, 9, 10}, []int{-9, 9, 10})},
		{"+2 -2 +2", stumpList([]int{2, 3}, []int{-2, -1})},
		{"+2 -2", stumpList([]int{2, 3}, []int{-2, -1})},
		{"+1 -3", stumpList([]int{1, 3, 4}, []int{-3, -1, 0})},
		{"-2 +2 -3 -2 +3", stumpList([]int{2, 3, 4}, []int{-3, -2, -1})},
		{"+1,-4 -3,-4", stumpList([]int{1, 3, 4}, []int{-3, -1, 0}, []int{-4, -3}, []int{4, 5})},
		{"+0,0,0,9", stumpList([]int{0, 1}, []int{0, 1}, []int{0, 1}, []int{0, 1}, []int{0, 1}, []int{0, 1}, []int{9, 10}, []int{-9, -8})},
	} {
		if stumps, ok := impl.StumpsOf(sampleOfText(t, c.text)); !ok || !sameText(stumps, c.want) {
			t.Errorf("%s: %v, %v", c.text, stumps, ok)
		}
	}
}

// greatSample returns a Sample of MaxPoints points of MaxSpace numbers, which are all different at
// each place.
func greatSample() impl.Sample {
	s := impl.Sample{}
	for i := range 16 {
		s.Points = append(s.Points, []int{i - 8, 7 - i, 9 - i, i - 9})
		s.Labels = append(s.Labels, 1-2*(i/3%2))
	}
	return s
}

// Samples of MaxPoints points have up to 17 stumps for each place and Weight, and as few as 2.
func TestMostAndFewestStumps(t *testing.T) {
	most, one := impl.StumpsOf(greatSample())
	fewest, two := impl.StumpsOf(repeated(16, -1, 9, -9, 0, 1))
	if !one || !two || len(most) != 8*17 || len(fewest) != 8*2 {
		t.Error(len(most), one, len(fewest), two)
	}
}

// The labels make no difference to the stumps of a Sample, nor does the order of its points.
func TestStumpsBySearch(t *testing.T) {
	check := func(s impl.Sample) {
		stumps, ok := impl.StumpsOf(s)
		if !ok || !sameText(stumps, stumpsBy(s)) {
			t.Fatalf("%v: %v, %v", s, stumps, ok)
		}
		other := labelledAs(s, -1)
		other.Points = slices.Clone(s.Points)
		slices.Reverse(other.Points)
		if same, ok := impl.StumpsOf(other); !ok || !sameText(stumps, same) {
			t.Fatalf("%v: %v, but %v, %v", s, stumps, same, ok)
		}
	}
	eachSmallest(1, check) // eachSample has more points of one number
	eachSample(t, 200, check)
}

// Samples without points, and with points without numbers, have no stumps.
func TestSamplesWithoutStumps(t *testing.T) {
	for _, value := range samplesWithout() {
		s := value.(impl.Sample)
		stumps, one := impl.StumpsOf(s)
		best, two := impl.BestStump(s, slices.Repeat([]int{1}, len(s.Points)))
		rounds, hefts, three := impl.BoostRounds(s, 3)
		bound, four := impl.BoostBound(s, 3)
		jury, five := impl.FittingJury(s, 1)
		root, low, high, six := impl.BestChoice(s)
		if one || two || three || four || five || six {
			t.Errorf("%.100v: %v, %v, %v, %v, %v, %v", s, one, two, three, four, five, six)
		}
		if !areZero(resultsOf(stumps, best, rounds, hefts, bound, jury, root, low, high, false)) {
			t.Errorf("%.100v: %v, %v, %v, %v, %v, %v, %v, %v, %v", s, stumps, best, rounds, hefts, bound, jury, root, low, high)
		}
	}
}

func TestWeightedMistakes(t *testing.T) {
	for _, c := range []struct {
		text  string
		hefts []int
		p     impl.Plane
		want  int
	}{
		{"+1 -2 +3", []int{1, 2, 1}, planeOf(1, 1), 2},
		{"+1 -2 +3", []int{1, 2, 4}, planeOf(2, 1), 3},
		{"+1 -2 +3", []int{1, 2, 4}, planeOf(4, 1), 5},
		{"+1 -2 +3", []int{1, 2, 4}, planeOf(-1, -1), 4},
		{"+1 -2 +3", []int{0, 0, 0}, planeOf(4, 1), 0},
		{"+1 -2 +3", []int{0, 7, 0}, planeOf(4, 1), 0},
		{"+1 -2 +3", []int{1000000, 0, 1000000}, planeOf(4, 1), 2000000},
		{"+1 -2 +3", []int{1, 1, 1}, planeOf(-99, 99), 1},
		{"+1 -2 +3", []int{1, 10, 100}, planeOf(99, -99), 101},
		{"+0 -0", []int{3, 5}, planeOf(0, 1), 5},
		{"+0 -0", []int{3, 5}, planeOf(1, 1), 3},
		{"-1,2", []int{6}, planeOf(3, 1, 1), 6},
		{"-1,2", []int{6}, planeOf(4, 1, 1), 0},
		{"none", nil, planeOf(4, 1, 1), 0},
		{"none", []int{}, planeOf(0, 1, 2, 3, 4), 0},
	} {
		if sum, ok := impl.WeightedMistakes(sampleOfText(t, c.text), c.hefts, c.p); !ok || sum != c.want {
			t.Errorf("%s, %v, %v: %d, %v", c.text, c.hefts, c.p, sum, ok)
		}
	}
	all := slices.Repeat([]int{1000000}, 16)
	if sum, ok := impl.WeightedMistakes(repeated(16, 1, 0, 0), all, planeOf(1, 5, 5)); !ok || sum != 16000000 {
		t.Error(sum, ok)
	}
}

// Neither weighted mistakes nor a best stump are told for lists that are no hefts.
func TestListsThatAreNoHefts(t *testing.T) {
	for n := range 17 {
		s := repeated(n, 1, 1, 2)
		for _, hefts := range notHefts(n) {
			sum, one := impl.WeightedMistakes(s, hefts, planeOf(9, 1, 0))
			best, two := impl.BestStump(s, hefts)
			if one || sum != 0 || two || !sameText(best, impl.Plane{}) {
				t.Errorf("%d points, %v: %d, %v, %v, %v", n, hefts, sum, one, best, two)
			}
		}
	}
}

// Only Planes that suit a Sample have weighted mistakes.
func TestPlanesThatDoNotSuitHefts(t *testing.T) {
	for d := range 6 {
		for e := range 6 {
			sum, ok := impl.WeightedMistakes(sampleOf([]int{-1}, make([]int, d)), []int{5}, planeOf(0, make([]int, e)...))
			if fine := d == e && d >= 1 && d <= 4; ok != fine || fine && sum != 5 || !fine && sum != 0 {
				t.Errorf("%d numbers, %d Weights: %d, %v", d, e, sum, ok)
			}
		}
	}
}

// The weighted mistakes of any Plane are the sum over its mistakes; with all labels turned, they are
// the rest of all hefts.
func TestWeightedMistakesOfAnyPlane(t *testing.T) {
	r := rand.New(rand.NewSource(201))
	eachPair(202, func(s impl.Sample, p impl.Plane) {
		if len(s.Points) == 0 {
			return
		}
		turned, _ := impl.TurnLabels(s)
		for _, hefts := range heftsFor(r, len(s.Points)) {
			sum, one := impl.WeightedMistakes(s, hefts, p)
			rest, two := impl.WeightedMistakes(turned, hefts, p)
			if !one || !two || sum != weightedBy(s, hefts, p) || sum+rest != sumBy(hefts) {
				t.Fatalf("%v, %v, %v: %d, %v; %d, %v", s, hefts, p, sum, one, rest, two)
			}
		}
	})
}

func TestBestStump(t *testing.T) {
	for _, c := range []struct {
		text  string
		hefts []int
		want  impl.Plane
	}{
		{"+1 -2 +3", []int{1, 1, 1}, planeOf(1, 1)},
		{"+1 -2 +3", []int{1, 2, 1}, planeOf(3, 1)},
		{"+1 -2 +3", []int{2, 2, 1}, planeOf(-1, -1)},
		{"+1 -2 +3", []int{2, 1, 0}, planeOf(-1, -1)},
		{"+1 -2 +3", []int{0, 1, 0}, planeOf(3, 1)},
		{"+1 -2 +3", []int{0, 0, 0}, planeOf(1, 1)},
		{"+1 -2 +3", []int{1000000, 1000000, 1000000}, planeOf(1, 1)},
		{"+1 -2 +3", []int{1000000, 1000000, 999999}, planeOf(-1, -1)},
		{"+1 -2 -3", []int{1, 1, 1}, planeOf(-1, -1)},
		{"-1 -2 -3", []int{1, 1, 1}, planeOf(4, 1)},
		{"-1 -2 +3", []int{1, 1, 1}, planeOf(3, 1)},
		{"+5", []int{1}, planeOf(5, 1)},
		{"-5", []int{1}, planeOf(6, 1)},
		{"-5", []int{0}, planeOf(5, 1)},
		{"+0 -0", []int{1, 1}, planeOf(0, 1)},
		{"+0 -0", []int{1, 2}, planeOf(1, 1)},
		{"+0 -0", []int{0, 0}, planeOf(0, 1)},
		{"+0,1 -0,0", []int{1, 1}, planeOf(1, 0, 1)},
		{"+0,0 -0,1", []int{1, 1}, planeOf(0, 0, -1)},
		{"+0,0 -1,1", []int{1, 1}, planeOf(0, -1, 0)},
		{"+1,1 -0,0", []int{1, 1}, planeOf(1, 1, 0)},
		{"-0,0 +0,1 +1,0 -1,1", []int{1, 1, 1, 1}, planeOf(0, 1, 0)},
		{"-0,0 +0,1 +1,0 -1,1", []int{1, 0, 1, 1}, planeOf(1, 1, 0)},
		{"-0,0 +0,1 +1,0 -1,1", []int{0, 1, 1, 1}, planeOf(0, 1, 0)},
		{"-0,0 +0,1 +1,0 -1,1", []int{2, 2, 1, 2}, planeOf(2, 1, 0)},
		{"-0,0 +0,1 +1,0 -1,1", []int{1, 2, 1, 2}, planeOf(0, -1, 0)},
	} {
		if best, ok := impl.BestStump(sampleOfText(t, c.text), c.hefts); !ok || !sameText(best, c.want) {
			t.Errorf("%s, %v: %v, %v", c.text, c.hefts, best, ok)
		}
	}
}

// The best stump is the first one of those with the least weighted mistakes, which are at most half
// of the sum of the hefts; often there are several, and they often are just half of it.
func TestBestStumpsBySearch(t *testing.T) {
	r := rand.New(rand.NewSource(203))
	several, halves := 0, 0
	check := func(s impl.Sample) {
		for _, hefts := range heftsFor(r, len(s.Points)) {
			best, one := impl.BestStump(s, hefts)
			least, two := impl.WeightedMistakes(s, hefts, best)
			if !one || !two || !sameText(best, bestBy(s, hefts)) || 2*least > sumBy(hefts) {
				t.Fatalf("%v, %v: %v, %v with %d, %v", s, hefts, best, one, least, two)
			}
			count := 0
			for _, p := range stumpsBy(s) {
				if weightedBy(s, hefts, p) == least {
					count++
				}
			}
			if count > 1 {
				several++
			}
			if least > 0 && 2*least == sumBy(hefts) {
				halves++
			}
		}
	}
	eachSmallest(1, check)
	eachSample(t, 204, check)
	if several < 1000 || halves < 200 {
		t.Error(several, halves)
	}
}

func TestUniformHefts(t *testing.T) {
	for n := range 17 {
		s := repeated(n, -1, 3)
		for _, heft := range []int{0, 1, 2, 999999, 1000000} {
			if hefts, ok := impl.UniformHefts(s, heft); !ok || !slices.Equal(hefts, slices.Repeat([]int{heft}, n)) {
				t.Errorf("%d points, %d: %v, %v", n, heft, hefts, ok)
			}
		}
		for _, heft := range badHefts() {
			if hefts, ok := impl.UniformHefts(s, heft); ok || len(hefts) > 0 {
				t.Errorf("%d points, %d: %v, %v", n, heft, hefts, ok)
			}
		}
	}
	for _, s := range notSamples() {
		if hefts, ok := impl.UniformHefts(s, 1); ok || len(hefts) > 0 {
			t.Errorf("%.100v: %v, %v", s, hefts, ok)
		}
	}
}

func badHefts() []int { return []int{-1, 1000001, -1000000, math.MinInt, math.MaxInt} }

// With uniform hefts, the weighted mistakes are as many times the number of mistakes.
func TestUniformHeftsCountMistakes(t *testing.T) {
	eachPair(205, func(s impl.Sample, p impl.Plane) {
		for _, heft := range []int{0, 1, 7, 1000000} {
			hefts, one := impl.UniformHefts(s, heft)
			sum, two := impl.WeightedMistakes(s, hefts, p)
			if !one || !two || sum != heft*len(mistakesBy(s, p)) {
				t.Fatalf("%v, %v, %d: %v, %v; %d, %v", s, p, heft, hefts, one, sum, two)
			}
		}
	})
}
