package tests

import (
	"math/rand"
	"slices"
	"testing"

	"loop.example/g01135/impl"
)

func TestProductOf(t *testing.T) {
	for _, c := range []struct {
		p    impl.Plane
		x    []int
		want int
	}{
		{planeOf(0, -1, 1), []int{1, 2}, 1},
		{planeOf(50, 2, 3), []int{4, -5}, -7},
		{planeOf(0, 7), []int{0}, 0},
		{planeOf(-99, 7), []int{-9}, -63},
		{planeOf(99, 99, 99, 99, 99), []int{9, 9, 9, 9}, 3564},
		{planeOf(99, 99, 99, 99, 99), []int{-9, -9, -9, -9}, -3564},
		{planeOf(0, 1, 10, 99, 0), []int{4, 3, 2, 1}, 232},
		{planeOf(0, 1, 0, 0), []int{5, 6, 7}, 5},
		{planeOf(0, 0, 0, 1), []int{5, 6, 7}, 7},
	} {
		if n, ok := impl.ProductOf(c.p, c.x); !ok || n != c.want {
			t.Errorf("ProductOf(%v, %v) = %d, %v, not %d", c.p, c.x, n, ok, c.want)
		}
	}
}

// The side is 1 just from the Bound on.
func TestSideOfAtTheBound(t *testing.T) {
	for bound := -99; bound <= 99; bound++ {
		for n := -9; n <= 9; n++ {
			want := -1
			if 10*n >= bound {
				want = 1
			}
			if side, ok := impl.SideOf(planeOf(bound, 10), []int{n}); !ok || side != want {
				t.Errorf("Bound %d, product %d: %d, %v", bound, 10*n, side, ok)
			}
		}
	}
	for _, c := range []struct {
		p    impl.Plane
		x    []int
		want int
	}{
		{planeOf(0, 0), []int{9}, 1}, {planeOf(1, 0), []int{9}, -1}, {planeOf(0, -1, 1), []int{3, 0}, -1},
		{planeOf(99, 11, 0, 0, 0), []int{9, 9, 9, 9}, 1}, {planeOf(99, 11, 0, 0, -1), []int{9, 0, 0, 1}, -1},
		{planeOf(-99, 99, 99, 99, 99), []int{-1, 0, 0, 0}, 1}, {planeOf(-98, 99, 99, 99, 99), []int{-1, 0, 0, 0}, -1},
		{planeOf(-99, 99, 99), []int{-9, -9}, -1}, {planeOf(99, -99, -99), []int{-9, -9}, 1},
	} {
		if side, ok := impl.SideOf(c.p, c.x); !ok || side != c.want {
			t.Errorf("SideOf(%v, %v) = %d, %v", c.p, c.x, side, ok)
		}
	}
}

// A point needs as many numbers as the Plane has Weights.
func TestPointsOfOtherLengths(t *testing.T) {
	for d := 1; d <= 4; d++ {
		for e := 0; e <= 5; e++ {
			p, x := planeOf(0, make([]int, d)...), make([]int, e)
			s := sampleOf([]int{1}, x)
			_, one := impl.ProductOf(p, x)
			_, two := impl.SideOf(p, x)
			_, three := impl.SidesOf(s, p)
			_, four := impl.MistakesOf(s, p)
			_, five := impl.FitsSample(s, p)
			_, six := impl.MovePlane(p, x)
			for i, ok := range []bool{one, two, three, four, five, six} {
				if ok != (d == e) {
					t.Errorf("function %d: %d Weights, %d numbers: %v", i, d, e, ok)
				}
			}
		}
	}
}

// Every Plane suits a Sample without points.
func TestNoPointsFitAnyPlane(t *testing.T) {
	for _, s := range []impl.Sample{{}, {Points: [][]int{}, Labels: []int{}}} {
		for d := 1; d <= 4; d++ {
			p := planeOf(99, make([]int, d)...)
			sides, one := impl.SidesOf(s, p)
			mistakes, two := impl.MistakesOf(s, p)
			fits, three := impl.FitsSample(s, p)
			if !one || !two || !three || len(sides) != 0 || len(mistakes) != 0 || !fits {
				t.Errorf("%d Weights: %v, %v; %v, %v; %v, %v", d, sides, one, mistakes, two, fits, three)
			}
		}
		for _, p := range notPlanes() {
			if fits, ok := impl.FitsSample(s, p); fits || ok {
				t.Errorf("%d Weights, Bound %d: %v, %v", len(p.Weights), p.Bound, fits, ok)
			}
		}
	}
}

func TestMistakesOf(t *testing.T) {
	s := sampleOf([]int{1, -1, 1, -1, -1}, []int{1, 2}, []int{3, 0}, []int{-1, 1}, []int{-1, 1}, []int{9, -9})
	for _, c := range []struct {
		p     impl.Plane
		sides []int
		wrong []int
	}{
		{planeOf(0, -1, 1), []int{1, -1, 1, 1, -1}, []int{3}},
		{planeOf(0, 0, 0), []int{1, 1, 1, 1, 1}, []int{1, 3, 4}},
		{planeOf(1, 0, 0), []int{-1, -1, -1, -1, -1}, []int{0, 2}},
		{planeOf(0, 1, -1), []int{-1, 1, -1, -1, 1}, []int{0, 1, 2, 4}},
		{planeOf(2, -1, 1), []int{-1, -1, 1, 1, -1}, []int{0, 3}},
	} {
		sides, one := impl.SidesOf(s, c.p)
		wrong, two := impl.MistakesOf(s, c.p)
		fits, three := impl.FitsSample(s, c.p)
		if !one || !two || !three || !slices.Equal(sides, c.sides) || !slices.Equal(wrong, c.wrong) || fits {
			t.Errorf("%v: %v, %v; %v, %v; %v, %v", c.p, sides, one, wrong, two, fits, three)
		}
	}
}

// Promise 2: a Plane fits a Sample exactly if it makes no mistake, and these are the points
// whose side is not their label.
func TestPlanesFitWithoutMistakes(t *testing.T) {
	fitted := 0
	eachPair(1, func(s impl.Sample, p impl.Plane) {
		want := mistakesBy(s, p)
		wrong, one := impl.MistakesOf(s, p)
		fits, two := impl.FitsSample(s, p)
		if !one || !two || !slices.Equal(wrong, want) || fits != (len(want) == 0) {
			t.Fatalf("%v and %v: %v, %v; %v, %v", s, p, wrong, one, fits, two)
		}
		sides, ok := impl.SidesOf(s, p)
		if !ok || len(sides) != len(s.Points) {
			t.Fatalf("%v and %v: sides %v, %v", s, p, sides, ok)
		}
		for i, x := range s.Points {
			side, ok := impl.SideOf(p, x)
			if !ok || side != sideBy(p, x) || sides[i] != side || slices.Contains(wrong, i) != (side != s.Labels[i]) {
				t.Fatalf("%v and %v: %d, %v, at place %d", s, p, side, ok, i)
			}
		}
		if fits {
			fitted++
		}
	})
	if fitted < 100 {
		t.Error("only", fitted, "fits were tested")
	}
}

// A Plane that fits makes no mistake, and one label turned makes just this one.
func TestOneMistake(t *testing.T) {
	r := rand.New(rand.NewSource(2))
	for d := 1; d <= 4; d++ {
		for n := 1; n <= 16; n++ {
			p := randomPlane(r, d, 99)
			s := labelledBy(randomSample(r, n, d, 9), p)
			if fits, ok := impl.FitsSample(s, p); !ok || !fits {
				t.Errorf("%v does not fit %v: %v", p, s, ok)
			}
			for i := range n {
				s.Labels[i] *= -1
				wrong, one := impl.MistakesOf(s, p)
				fits, two := impl.FitsSample(s, p)
				if !one || !two || fits || !slices.Equal(wrong, []int{i}) {
					t.Errorf("%v and %v: %v, %v; %v, %v", s, p, wrong, one, fits, two)
				}
				s.Labels[i] *= -1
			}
		}
	}
}
