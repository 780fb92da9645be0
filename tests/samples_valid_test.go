package tests

import (
	"math"
	"slices"
	"testing"

	"loop.example/g01135/impl"
)

func TestIsPoint(t *testing.T) {
	for _, x := range [][]int{{0}, {9}, {-9}, {1, 2}, {9, 9, 9}, {-9, -9, -9, -9}, {0, 0, 0, 0}, {9, -9, 9, -9}} {
		if !impl.IsPoint(x) {
			t.Errorf("%v is a point", x)
		}
	}
	for _, x := range notPoints() {
		if impl.IsPoint(x) {
			t.Errorf("a list of %d numbers is no point: %.20v", len(x), x[:min(len(x), 6)])
		}
	}
}

// Each number of a point has the same limits, at every place and in points of every length.
func TestNumbersOfPoints(t *testing.T) {
	for d := range 7 {
		for place := range d {
			for _, n := range []int{-12, -11, -10, -9, -8, -1, 0, 1, 8, 9, 10, 11, 12, math.MinInt, math.MaxInt} {
				x := make([]int, d)
				x[place] = n
				if impl.IsPoint(x) != (d <= 4 && n >= -9 && n <= 9) {
					t.Errorf("IsPoint(%v) = %v", x, impl.IsPoint(x))
				}
			}
		}
	}
}

func TestIsSample(t *testing.T) {
	for _, s := range []impl.Sample{
		{}, {Points: [][]int{}, Labels: []int{}}, {Labels: []int{}}, sampleOf([]int{1}, []int{0}),
		sampleOf([]int{-1}, []int{9, -9, 9, -9}), sampleOf([]int{1, -1}, []int{1, 2}, []int{1, 2}),
		repeated(2, 1, 0), repeated(15, -1, 3, 4), repeated(16, 1, 3, 4), repeated(16, -1, 9, 9, 9, 9),
	} {
		if !impl.IsSample(s) {
			t.Errorf("%v is a Sample", s)
		}
	}
	for _, s := range notSamples() {
		if impl.IsSample(s) {
			t.Errorf("no Sample, %d points, %d labels: %.100v", len(s.Points), len(s.Labels), s.Points[:min(3, len(s.Points))])
		}
	}
}

// A single wrong point or label spoils a Sample, whatever its place.
func TestSamplesWithOneWrongPart(t *testing.T) {
	for n := 1; n <= 16; n++ {
		for i := range n {
			s := repeated(n, 1, 9, -9)
			s.Labels[i] = -1
			if !impl.IsSample(s) {
				t.Errorf("%v is a Sample", s)
			}
			for _, label := range []int{0, 2, -2, 3, math.MinInt} {
				s.Labels[i] = label
				if impl.IsSample(s) {
					t.Errorf("the label %d at place %d of %d", label, i, n)
				}
			}
			s.Labels[i] = 1
			for _, x := range [][]int{{9}, {9, 9, 9}, {9, 10}, {-10, 9}, nil} {
				s.Points[i] = x
				if impl.IsSample(s) && (n > 1 || len(x) != 1 && len(x) != 3) {
					t.Errorf("the point %v at place %d of %d", x, i, n)
				}
			}
		}
	}
}

func TestIsPlane(t *testing.T) {
	for _, p := range []impl.Plane{
		planeOf(0, 0), planeOf(99, 99), planeOf(-99, -99), planeOf(1, 2, 3), planeOf(99, 99, 99, 99, 99),
		planeOf(-99, -99, -99, -99, -99), planeOf(0, 0, 0, 0), planeOf(-99, 0), planeOf(99, 0),
	} {
		if !impl.IsPlane(p) {
			t.Errorf("%v is a Plane", p)
		}
	}
	for _, p := range notPlanes() {
		if impl.IsPlane(p) {
			t.Errorf("no Plane: %d Weights, Bound %d", len(p.Weights), p.Bound)
		}
	}
}

func TestNumbersOfPlanes(t *testing.T) {
	for d := range 7 {
		for place := range d + 1 {
			for _, n := range []int{-101, -100, -99, -98, 0, 98, 99, 100, 101, math.MinInt, math.MaxInt} {
				numbers := make([]int, d+1)
				numbers[place] = n
				p := planeOf(numbers[d], numbers[:d]...)
				if impl.IsPlane(p) != (d >= 1 && d <= 4 && n >= -99 && n <= 99) {
					t.Errorf("IsPlane(%v) = %v", p, impl.IsPlane(p))
				}
			}
		}
	}
}

// The limits are those of the document.
func TestLimitsOfSamples(t *testing.T) {
	limits := []int{impl.MaxPoints, impl.MaxSpace, impl.MaxCoordinate, impl.MaxPlane, impl.MaxBits}
	if !slices.Equal(limits, []int{16, 4, 9, 99, 4}) {
		t.Error(limits)
	}
}
