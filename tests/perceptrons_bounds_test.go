package tests

import (
	"math"
	"math/rand"
	"slices"
	"sort"
	"testing"

	"loop.example/g01135/impl"
)

func TestPlaneOfCounts(t *testing.T) {
	for _, c := range []struct {
		text   string
		counts []int
		want   impl.Plane
	}{
		{"+1,1 +2,2 --1,0", []int{0, 0, 1}, planeOf(1, 1, 0)},
		{"+1,1 +2,2 --1,0", []int{0, 0, 0}, planeOf(0, 0, 0)},
		{"+1,1 +2,2 --1,0", []int{3, 1, 2}, planeOf(-2, 7, 5)},
		{"+5,-4", []int{2}, planeOf(-2, 10, -8)},
		{"-5,-4", []int{2}, planeOf(2, -10, 8)},
		{"+1", []int{99}, planeOf(-99, 99)},
		{"-1", []int{99}, planeOf(99, -99)},
		{"+9", []int{11}, planeOf(-11, 99)},
		{"+0 -0", []int{999, 999}, planeOf(0, 0)},
		{"+9 -9", []int{999, 999}, planeOf(0, 0)},
		{"+9 -9", []int{999, 998}, planeOf(-1, 9)},
		{"-1,0 +1,0 +1,0", []int{900, 100, 801}, planeOf(-1, 1, 0)},
		{"+0,0,0,1 -9,0,0,0", []int{7, 11}, planeOf(4, -99, 0, 0, 7)},
	} {
		if p, ok := impl.PlaneOfCounts(sampleOfText(t, c.text), c.counts); !ok || !sameText(p, c.want) {
			t.Errorf("%s, %v: %v, %v", c.text, c.counts, p, ok)
		}
	}
}

func TestCountsThatMakeNoPlane(t *testing.T) {
	for _, c := range []struct {
		text   string
		counts []int
	}{
		{"none", nil}, {"none", []int{}}, {"none", []int{1}},
		{"+1", nil}, {"+1", []int{1, 1}}, {"+1 -1", []int{1}}, {"+1 -1", []int{1, 1, 1}},
		{"+0 -0", []int{1000, 1000}}, {"+0 -0", []int{999, 1000}}, {"+0 -0", []int{1000, 999}},
		{"+1 -1", []int{-1, 0}}, {"+1 -1", []int{0, -1}}, {"+1 -1", []int{-1, -1}},
		{"+1 -1", []int{math.MaxInt, math.MaxInt}}, {"+1 -1", []int{math.MinInt, math.MinInt}},
		{"+0", []int{100}}, {"-0", []int{100}}, {"+9", []int{12}}, {"-9", []int{12}}, {"+-9", []int{12}},
		{"+0,0,0,9 -0,0,0,1", []int{999, 999}}, {"+2,0 -1,0", []int{100, 100}}, {"+0,-2 -0,-1", []int{100, 100}},
	} {
		if p, ok := impl.PlaneOfCounts(sampleOfText(t, c.text), c.counts); ok || !sameText(p, impl.Plane{}) {
			t.Errorf("%s, %v: %v, %v", c.text, c.counts, p, ok)
		}
	}
}

// Random counts lead to the sums of the document, or fail where these are no Plane.
func TestPlanesOfRandomCounts(t *testing.T) {
	r := rand.New(rand.NewSource(35))
	made, none := 0, 0
	for range 5000 {
		d, n := 1+r.Intn(4), 1+r.Intn(16)
		s, counts := randomSample(r, n, d, 9), make([]int, n)
		lifted := make([]int, d+1)
		for i, x := range s.Points {
			counts[i] = r.Intn(1 + 20/n)
			for j, number := range append(slices.Clone(x), -1) {
				lifted[j] += s.Labels[i] * counts[i] * number
			}
		}
		want := loweredPlane(lifted)
		fine := slices.Max(lifted) <= 99 && slices.Min(lifted) >= -99
		if fine {
			made++
		} else {
			want = impl.Plane{}
			none++
		}
		if p, ok := impl.PlaneOfCounts(s, counts); ok != fine || !sameText(p, want) {
			t.Fatalf("%v, %v: %v, %v, not %v", s, counts, p, ok, want)
		}
	}
	if made < 100 || none < 100 {
		t.Errorf("%d Planes, %d others", made, none)
	}
}

func TestMarginOf(t *testing.T) {
	for _, c := range []struct {
		text   string
		p      impl.Plane
		margin int
		bound  int // of the mistakes; -1 if the Plane does not fit
	}{
		{"+1,1 +2,2 --1,0", planeOf(1, 1, 0), 1, 45},
		{"+1,1 +2,2 --1,0", planeOf(0, 0, 0), -1, -1},
		{"+1,1 +2,2 --1,0", planeOf(1, 4, 4), 9, 14},
		{"+3", planeOf(0, 0), 1, 10},
		{"+3", planeOf(1, 0), -1, -1},
		{"-3", planeOf(1, 0), 1, 10},
		{"-3", planeOf(1, -3), 19, 1},
		{"-0", planeOf(1, 0), 1, 1},
		{"+0", planeOf(0, 0), 1, 1},
		{"+1 -1", planeOf(0, 0), -1, -1},
		{"+1 -1", planeOf(5, 1), -7, -1},
		{"+9,9,9,9", planeOf(-99, 99, 99, 99, 99), 7327, 1},
		{"-9,9,9,9", planeOf(99, -99, -99, -99, -99), 7325, 1},
		{"+9,9,9,9", planeOf(99, -99, -99, -99, -99), -7325, -1},
		{"-9,9,9,9 --9,-9,-9,-9", planeOf(99, 11, 0, 0, 0), -1, -1},
		{"+9,9,9,9 --9,-9,-9,-9", planeOf(99, 11, 0, 0, 0), 1, 325 * (4*121 + 197*197)},
	} {
		s := sampleOfText(t, c.text)
		margin, one := impl.MarginOf(s, c.p)
		bound, two := impl.MistakeBound(s, c.p)
		if !one || margin != c.margin || two != (c.bound >= 0) || two && bound != c.bound || !two && bound != 0 {
			t.Errorf("%s, %v: %d, %v; %d, %v", c.text, c.p, margin, one, bound, two)
		}
	}
}

// Planes that do not suit the Sample, and Samples without points, have no margin.
func TestNoMargins(t *testing.T) {
	check := func(s impl.Sample, p impl.Plane) {
		t.Helper()
		margin, one := impl.MarginOf(s, p)
		bound, two := impl.MistakeBound(s, p)
		if one || two || margin != 0 || bound != 0 {
			t.Errorf("%.100v, %.100v: %d, %v; %d, %v", s, p, margin, one, bound, two)
		}
	}
	for d := 0; d <= 5; d++ {
		check(impl.Sample{}, planeOf(0, make([]int, d)...))
		for e := 0; e <= 5; e++ {
			if d != e || d == 0 || d == 5 {
				check(sampleOf([]int{1}, make([]int, e)), planeOf(0, make([]int, d)...))
			}
		}
	}
	for _, s := range notSamples() {
		check(s, planeOf(0, 1, 1))
		check(s, planeOf(0, 1))
	}
	for _, p := range notPlanes() {
		check(sampleOf([]int{1}, []int{1, 2}), p)
		check(impl.Sample{}, p)
	}
}

// marginBy is the margin by the document's definition.
func marginBy(s impl.Sample, p impl.Plane) int {
	least := math.MaxInt
	for i, x := range s.Points {
		left := 1 - 2*p.Bound
		for j, w := range p.Weights {
			left += 2 * w * x[j]
		}
		least = min(least, left*s.Labels[i])
	}
	return least
}

// boundBy is the bound of mistakes by the document's definition, for a Plane that fits.
func boundBy(s impl.Sample, p impl.Plane) int {
	greatest, sum := 0, (2*p.Bound-1)*(2*p.Bound-1)
	for _, x := range s.Points {
		square, _ := impl.SquareDistance(x, make([]int, len(x)))
		greatest = max(greatest, 1+square)
	}
	for _, w := range p.Weights {
		sum += 4 * w * w
	}
	margin := marginBy(s, p)
	return sort.Search(greatest*sum+1, func(m int) bool { return m*margin*margin > greatest*sum }) - 1
}

// The margin is greater than 0 exactly if the Plane fits, and only then there is a bound.
func TestMarginsAndBounds(t *testing.T) {
	fitted, others := 0, 0
	eachPair(36, func(s impl.Sample, p impl.Plane) {
		if len(s.Points) == 0 {
			return
		}
		margin, one := impl.MarginOf(s, p)
		bound, two := impl.MistakeBound(s, p)
		fits, three := impl.FitsSample(s, p)
		if !one || !three || two != fits || margin != marginBy(s, p) || fits != (margin > 0) {
			t.Fatalf("%v, %v: %d, %v; %d, %v; %v", s, p, margin, one, bound, two, fits)
		}
		if fits && bound != boundBy(s, p) || !fits && bound != 0 {
			t.Fatalf("%v, %v: %d, not %d", s, p, bound, boundBy(s, p))
		}
		if fits {
			fitted++
		} else {
			others++
		}
	})
	if fitted < 100 || others < 100 {
		t.Errorf("%d Planes fitted, %d did not", fitted, others)
	}
}

// checkMistakes checks that runs make no more steps that change the Plane than the bound of a
// Plane, and returns whether one makes as many.
func checkMistakes(t *testing.T, s impl.Sample, p impl.Plane) bool {
	t.Helper()
	bound, ok := impl.MistakeBound(s, p)
	most := 0
	for _, rounds := range []int{1, 2, 6, 12} {
		trace, fine := impl.PerceptronTrace(s, rounds)
		if !fine {
			continue
		}
		most = max(most, len(trace))
	}
	if !ok || most > bound {
		t.Fatalf("%v has %d steps, but the bound of %v is %d, %v", s, most, p, bound, ok)
	}
	return most == bound
}

// Promise 3: a run makes no more steps that change the Plane than the bound of any Plane that
// fits. Of all small Samples and Planes, some make just as many.
func TestRunsKeepTheBoundOfSmallPlanes(t *testing.T) {
	equal, less := 0, 0
	eachSmallSample(3, func(s impl.Sample) {
		for w := -3; w <= 3; w++ {
			for b := -3; b <= 3; b++ {
				switch p := planeOf(b, w); {
				case len(mistakesBy(s, p)) > 0:
				case checkMistakes(t, s, p):
					equal++
				default:
					less++
				}
			}
		}
	})
	if equal < 10 || less < 100 {
		t.Errorf("%d and %d", equal, less)
	}
}

// Promise 3, for points of each length, and Planes with small and great margins.
func TestRunsKeepTheBoundOfAnyPlane(t *testing.T) {
	checked := 0
	for seed := range int64(5) {
		eachPair(40+seed, func(s impl.Sample, p impl.Plane) {
			if len(s.Points) > 0 && len(mistakesBy(s, p)) == 0 {
				checkMistakes(t, s, p)
				checked++
			}
		})
	}
	if checked < 1000 {
		t.Error("only", checked, "bounds were tested")
	}
	r := rand.New(rand.NewSource(37))
	for range 3000 {
		s := randomSample(r, 1+r.Intn(16), 1+r.Intn(4), 9)
		if p, mistakes, ok := impl.RunPerceptron(s, 12); ok && mistakes[len(mistakes)-1] == 0 {
			checkMistakes(t, s, p)
		}
	}
}
